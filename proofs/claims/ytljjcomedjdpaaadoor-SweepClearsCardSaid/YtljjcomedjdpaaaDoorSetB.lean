/- SetF, SetB in one text: a claim holds at most 60 files. -/
import Derived.Test.YtljjcomedjdpaaaDoorSetT
import Derived.Deep.DeepCutAuto
namespace Go.Proofs.YtljjcomedjdpaaaDoor
set_option maxRecDepth 100000
open Go.RowKit
set_option linter.unusedVariables false
set_option linter.unusedSimpArgs false

/-- r is the least number from f on that is in it; -1: there is none. -/
def FirstOf (ws : List Nat) (f : Nat) (r : Int) : Prop :=
  (r = -1 ∧ ∀ y, f ≤ y → y / 64 < ws.length → bitB ws y = false) ∨
  ∃ y : Nat, r = y ∧ f ≤ y ∧ y / 64 < ws.length ∧ bitB ws y = true ∧ ∀ z, f ≤ z → z < y → bitB ws z = false
def FirstPost (ws : List Nat) (n f : Int) (W : World) (e : Ending) (w' : World) : Prop :=
  W = w' ∧ ∃ r : Int, e = .returned (.int .i64 r) ∧ (n ≤ max f 0 → r = -1) ∧ (max f 0 < n → FirstOf ws (max f 0).toNat r)

theorem sfirst_far (lo hi g : Nat) (W : World) (n c f : Int) (ws : List Nat) (h : SetIs lo hi g W n c ws) (hf : n ≤ max f 0) :
    Calls Tryd.prog 79 #[.pointer (some ⟨g, 0, none⟩), .int .i64 f] W fun e w' => e = .returned (.int .i64 (-1)) ∧ W = w' := by
  have n0 := h.2.1.1
  have H := Lib.hid h; clear h
  have HF := Lib.hid hf; clear hf
  go_enter Tryd.func79, Tryd.ntmps79
  go_wp2_with fail
  all_goals
    refine (sthere_is false _ _ _ _ _ _ _ _ H.out (decide_eq_false (by have := HF.out; omega))).mono ?_
    rintro e w' ⟨rfl, rfl⟩
    go_wp2
    go_ret
    exact ⟨rfl, rfl⟩

theorem cut_bit (v s j : Nat) : (v / 2 ^ s * 2 ^ s).testBit j = (v.testBit j && decide (s ≤ j)) := by
  rw [Nat.mul_comm, Nat.testBit_two_pow_mul, Nat.testBit_div_two_pow]
  by_cases h : s ≤ j
  · simp [h, show s + (j - s) = j by omega]
  · simp [h]
theorem zero_bits (v : Nat) (hv : v = 0) (j : Nat) : v.testBit j = false := by subst hv; simp

theorem word_cut (v s : Nat) (hv : v < 18446744073709551616) : IntKind.u64.wrap ((v : Int) / 2 ^ s * 2 ^ s) = ((v / 2 ^ s * 2 ^ s : Nat) : Int) ∧ v / 2 ^ s * 2 ^ s < 18446744073709551616 := by
  have h : v / 2 ^ s * 2 ^ s ≤ v := Nat.div_mul_le_self _ _
  have e : ((v : Int) / 2 ^ s * 2 ^ s) = ((v / 2 ^ s * 2 ^ s : Nat) : Int) := by
    rw [Int.natCast_mul, Int.natCast_ediv, Int.natCast_pow]; rfl
  refine ⟨?_, by omega⟩
  rw [e, IntKind.wrap_u64]
  generalize v / 2 ^ s * 2 ^ s = t at h ⊢
  omega
theorem bitB_at (ws : List Nat) (k j : Nat) (h : j < 64) : bitB ws (64 * k + j) = (ws.getD k 0).testBit j := by
  unfold bitB
  rw [show (64 * k + j) / 64 = k by omega, show (64 * k + j) % 64 = j by omega]
def WordAt (ws : List Nat) (F k word : Nat) : Prop := (∀ j, j < 64 → word.testBit j = (bitB ws (64 * k + j) && decide (F ≤ 64 * k + j))) ∧ (∀ y, F ≤ y → y < 64 * k → bitB ws y = false) ∧ word < 18446744073709551616
theorem word_start (ws : List Nat) (F v : Nat) (hv : ws.getD (F / 64) 0 = v) (h : v < 18446744073709551616) : WordAt ws F (F / 64) (v / 2 ^ (F % 64) * 2 ^ (F % 64)) := by
  refine ⟨fun j hj => ?_, fun y h1 h2 => by omega, (word_cut v _ h).2⟩
  rw [cut_bit, bitB_at _ _ _ hj, hv]
  congr 1
  rw [decide_eq_decide]
  omega
theorem word_zero {ws : List Nat} {F k word : Nat} (h : WordAt ws F k word) (hz : word = 0) : ∀ y, F ≤ y → y < 64 * (k + 1) → bitB ws y = false := by
  intro y h1 h2
  by_cases hy : y < 64 * k
  · exact h.2.1 y h1 hy
  · have := h.1 (y - 64 * k) (by omega)
    rw [zero_bits word hz, show 64 * k + (y - 64 * k) = y by omega] at this
    simpa [h1] using this.symm
theorem word_next {ws : List Nat} {F k word v : Nat} (h : WordAt ws F k word) (hz : word = 0) (hk : F / 64 ≤ k) (hv : ws.getD (k + 1) 0 = v) (hlt : v < 18446744073709551616) : WordAt ws F (k + 1) v := by
  refine ⟨fun j hj => ?_, word_zero h hz, hlt⟩
  rw [bitB_at _ _ _ hj, hv]
  have : decide (F ≤ 64 * (k + 1) + j) = true := decide_eq_true (by omega)
  rw [this, Bool.and_true]
theorem word_found {ws : List Nat} {F k word c : Nat} (h : WordAt ws F k word) (hk : k < ws.length) (hc : c < 64) (h1 : word.testBit c = true) (h2 : ∀ j, j < c → word.testBit j = false) : FirstOf ws F (((k * 64 + c : Nat)) : Int) := by
  have e := h.1 c hc
  rw [h1] at e
  have e1 : bitB ws (64 * k + c) = true ∧ F ≤ 64 * k + c := by
    have := e.symm
    simpa using this
  refine .inr ⟨k * 64 + c, rfl, by omega, by omega, by rw [show k * 64 + c = 64 * k + c by omega]; exact e1.1, fun z z1 z2 => ?_⟩
  by_cases hz : z < 64 * k
  · exact h.2.1 z z1 hz
  · have e3 := h.1 (z - 64 * k) (by omega)
    rw [h2 _ (by omega), show 64 * k + (z - 64 * k) = z by omega] at e3
    simpa [z1] using e3.symm

set_option maxHeartbeats 800000 in
theorem sfirst_near (lo hi g : Nat) (W : World) (n c : Int) (f : Int) (F : Nat) (ws : List Nat) (h : SetIs lo hi g W n c ws) (hF : max f 0 = F) (hf : (F : Int) < n) (ht : TzTab W) :
    Calls Tryd.prog 79 #[.pointer (some ⟨g, 0, none⟩), .int .i64 f] W fun e w' => W = w' ∧ ∃ r : Int, e = .returned (.int .i64 r) ∧ FirstOf ws F r := by
  have H := Lib.hid h
  have T := Lib.hid ht; clear ht
  obtain ⟨_, ⟨n0, n1, n2⟩, c0, c1, f1, gw, cap, c2, g1, g2, g3, hc, hc2, hw⟩ := h
  have HW := Lib.hid hw; clear hw
  obtain ⟨L, hL⟩ : ∃ L, ws.length = L := ⟨_, rfl⟩
  have HL := Lib.hid hL
  rw [hL] at c2 hc n2 HW
  clear hL
  have hlt : F / 64 < L := by omega
  have x0 : (0 : Int) ≤ (F : Int) / 64 := by omega
  have x1 : (F : Int) / 64 < (L : Int) := by omega
  have x2 : ((F : Int) / 64).toNat = F / 64 := by omega
  have x3 : (0 : Int) ≤ (F : Int) % 64 := by omega
  have x4 : (F : Int) % 64 < 64 := by omega
  have x5 : ((F : Int) % 64).toNat = F % 64 := by omega
  obtain ⟨k1, _, k3⟩ := HW.out (F / 64) hlt
  obtain ⟨v, hv⟩ : ∃ v, ws.getD (F / 64) 0 = v := ⟨_, rfl⟩
  have HV := Lib.hid hv
  rw [hv] at k1 k3
  clear hv
  have HF := Lib.hid hF; clear hF
  go_enter Tryd.func79, Tryd.ntmps79
  go_upto_region 1 with (fail)
  go_cut [1] (fun u wx => u = .int .i64 F ∧ W = wx)
  case first =>
    go_wp2_with fail
    all_goals
      go_meet
      exact ⟨congrArg (Value.int .i64) (by have := HF.out; omega), rfl⟩
  case rest =>
    obtain ⟨rfl, rfl⟩ := hcut
    go_wp2_with fail
    refine (sthere_is true _ _ _ _ _ _ _ _ H.out (decide_eq_true (by omega))).mono ?_
    rintro e w' ⟨rfl, rfl⟩
    go_wp2_with fail
    obtain ⟨ew, _⟩ := word_cut v (F % 64) k3
    have HS := Lib.hid (word_start ws F v HV.out k3)
    rw [ew]
    clear ew
    go_loop [5, 6] (fun a b => ∃ (k word : Nat), k < L ∧ F / 64 ≤ k ∧ a = .int .i64 k ∧ b = .int .u64 word ∧ Hid (WordAt ws F k word)) (fun a _ => L - (intOf a).toNat)
    case atStart => exact ⟨F / 64, _, hlt, Nat.le_refl _, congrArg (Value.int .i64) (by omega), rfl, HS⟩
    case round =>
      clear HS
      obtain ⟨k, word, hk, hk2, rfl, rfl, HS⟩ := hrel
      by_cases hz : word = 0
      · have HZ := Lib.hid hz
        have hz2 : ((word : Int) == 0) = true := by simp [hz]
        clear hz
        by_cases hk3 : k + 1 = L
        · have hz3 : ((k : Int) + 1 == (L : Int)) = true := by simp; omega
          go_wp2_with fail
          go_ret
          exact ⟨rfl, -1, rfl, .inl ⟨rfl, fun y h1 h2 => word_zero HS.out HZ.out y h1 (by have := HL.out; omega)⟩⟩
        · have hz3 : ((k : Int) + 1 == (L : Int)) = false := by rw [beq_eq_false_iff_ne]; omega
          obtain ⟨q1, _, q3⟩ := HW.out (k + 1) (by omega)
          obtain ⟨u, hu⟩ : ∃ u, ws.getD (k + 1) 0 = u := ⟨_, rfl⟩
          have HS2 := Lib.hid (word_next HS.out HZ.out hk2 hu (by rw [← hu]; exact q3))
          rw [hu] at q1
          clear q3 hu
          have y1 : (k : Int) + 1 < (L : Int) := by omega
          have y2 : ((k : Int) + 1).toNat = k + 1 := by omega
          have y3 : (0 : Int) ≤ (k : Int) + 1 := by omega
          go_wp2_with fail
          go_round
          case rel => exact ⟨k + 1, u, by omega, by omega, by go_num, rfl, HS2⟩
          case measure => simp [intOf]; omega
      · have hz2 : ((word : Int) == 0) = false := by rw [beq_eq_false_iff_ne]; omega
        have HZ := Lib.hid hz; clear hz
        obtain ⟨q1, q2, q3⟩ := ctz_bit word HS.out.2.2 HZ.out
        have HQ2 := Lib.hid q2
        have HQ3 := Lib.hid q3
        have HT := Lib.hid (tz_any word HS.out.2.2 HZ.out)
        generalize Lib.ctz 64 word = cz at *
        clear q2 q3
        have kL : k ≤ 1024 := by omega
        go_wp2_with fail
        refine (HT.out _ T.out).mono ?_
        rintro e w' ⟨rfl, rfl⟩
        go_wp2_with fail
        go_ret
        exact ⟨rfl, _, rfl, by
          have := word_found HS.out (by have := HL.out; omega) q1 HQ2.out HQ3.out
          simpa using this⟩

theorem sfirst_any (lo hi g : Nat) (W : World) (n c f : Int) (ws : List Nat) (h : SetIs lo hi g W n c ws) (ht : TzTab W) :
    Calls Tryd.prog 79 #[.pointer (some ⟨g, 0, none⟩), .int .i64 f] W (FirstPost ws n f W) := by
  by_cases hf : max f 0 < n
  · have := sfirst_near lo hi g W n c f (max f 0).toNat ws h (by omega) (by omega) ht
    refine this.mono ?_
    rintro e w' ⟨hw, r, he, hr⟩
    exact ⟨hw, r, he, fun h => by omega, fun _ => hr⟩
  · refine (sfirst_far lo hi g W n c f ws h (by omega)).mono ?_
    rintro e w' ⟨he, hw⟩
    exact ⟨hw, -1, he, fun _ => rfl, fun h => absurd h hf⟩

/-- Whether one of a stretch is in it. -/
def SomeR (n f m : Int) (ws : List Nat) (r : Bool) : Prop := r = true ↔ (0 ≤ f ∧ ∃ y : Nat, f ≤ y ∧ (y : Int) < sendI n f m ∧ bitB ws y = true)
def SomePost (n f m : Int) (ws : List Nat) (W : World) (e : Ending) (w' : World) : Prop := W = w' ∧ ∃ r : Bool, e = .returned (.bool r) ∧ SomeR n f m ws r
theorem sendI_le {n f m y : Int} (h0 : 0 ≤ f) (h1 : f ≤ y) (h2 : y < sendI n f m) : y < n ∧ f < n := by unfold sendI at h2; split at h2 <;> omega
theorem ssome_any (lo hi g : Nat) (W : World) (n c f m : Int) (ws : List Nat) (h : SetIs lo hi g W n c ws) (ht : TzTab W) :
    Calls Tryd.prog 68 #[.pointer (some ⟨g, 0, none⟩), .int .i64 f, .int .i64 m] W (SomePost n f m ws W) := by
  have H := Lib.hid h
  have T := Lib.hid ht; clear ht
  have hn := h.2.1.2.2.1
  clear h
  by_cases hf : f < 0
  · go_enter Tryd.func68, Tryd.ntmps68
    go_wp2_with fail
    go_ret
    exact ⟨rfl, false, rfl, by unfold SomeR; simp; omega⟩
  · go_enter Tryd.func68, Tryd.ntmps68
    go_wp2_with fail
    refine (sfirst_any _ _ _ _ _ _ _ _ H.out T.out).mono ?_
    rintro e w' ⟨rfl, r, rfl, h1, h2⟩
    have H1 := Lib.hid h1
    have H2 := Lib.hid h2
    clear h1 h2
    by_cases hr : r < 0
    · go_wp2_with fail
      go_ret
      refine ⟨rfl, false, rfl, ?_⟩
      unfold SomeR
      constructor
      · intro h; cases h
      · rintro ⟨h0, y, y1, y2, y3⟩
        obtain ⟨z1, z2⟩ := sendI_le h0 y1 y2
        rcases H2.out (by omega) with ⟨_, h⟩ | ⟨y0, e, _⟩
        · rw [h y (by omega) (by omega)] at y3; exact y3
        · omega
    · go_wp2_with fail
      refine (send_any _ _ _ _ _ _ _ _ _ H.out).mono ?_
      rintro e w' ⟨rfl, rfl⟩
      go_wp2_with fail
      go_ret
      refine ⟨rfl, _, rfl, ?_⟩
      unfold SomeR
      rw [decide_eq_true_iff]
      constructor
      · intro hlt
        by_cases hx : max f 0 < n
        · rcases H2.out hx with ⟨e, _⟩ | ⟨y0, e, e1, e2, e3, _⟩
          · omega
          · exact ⟨by omega, y0, by omega, by omega, e3⟩
        · have := H1.out (by omega); omega
      · rintro ⟨h0, y, y1, y2, y3⟩
        obtain ⟨z1, z2⟩ := sendI_le h0 y1 y2
        rcases H2.out (by omega) with ⟨e, _⟩ | ⟨y0, e, e1, e2, e3, e4⟩
        · omega
        · by_cases hy : y < y0
          · rw [e4 y (by omega) hy] at y3; cases y3
          · omega

def wholeB (ws : List Nat) (f : Nat) : Nat → Bool
  | 0 => true
  | k + 1 => wholeB ws f k && bitB ws (f + k)
theorem whole_at {ws : List Nat} {f m j : Nat} (h : wholeB ws f m = true) (hj : j < m) : bitB ws (f + j) = true := by
  induction m with
  | zero => omega
  | succ m ih =>
    rw [wholeB, Bool.and_eq_true] at h
    by_cases e : j = m
    · rw [e]; exact h.2
    · exact ih h.1 (by omega)
set_option maxHeartbeats 800000 in
theorem swhole_in (lo hi g : Nat) (W : World) (n c : Int) (f m : Nat) (ws : List Nat) (h : SetIs lo hi g W n c ws) (hf : (f : Int) + m ≤ n) (hall : wholeB ws f m = true) :
    Calls Tryd.prog 94 #[.pointer (some ⟨g, 0, none⟩), .int .i64 f, .int .i64 m] W fun e w' => e = .returned (.bool true) ∧ W = w' := by
  have H := Lib.hid h
  obtain ⟨_, ⟨n0, n1, n2⟩, c0, _⟩ := h
  have HA := Lib.hid hall; clear hall
  have t1 : (m : Int) ≤ n := by omega
  have t2 : (f : Int) ≤ n - m := by omega
  have d1 : decide ((f : Int) < 0) = false := decide_eq_false (by omega)
  have d2 : decide ((m : Int) < 0) = false := decide_eq_false (by omega)
  have d3 : decide (n < (m : Int)) = false := decide_eq_false (by omega)
  have d4 : decide (n - (m : Int) < (f : Int)) = false := decide_eq_false (by omega)
  go_enter Tryd.func94, Tryd.ntmps94
  go_wp2_with fail
  go_loop [7] (fun v => ∃ j : Nat, j ≤ m ∧ v = .int .i64 ((f : Int) + j)) (fun v => ((f : Int) + m - intOf v).toNat)
  case atStart => exact ⟨0, by omega, by simp⟩
  case round =>
    obtain ⟨j, hj, rfl⟩ := hrel
    by_cases hlt : j < m
    · have hb := whole_at HA.out hlt
      have HB := Lib.hid hb; clear hb
      have l1 : (f : Int) + j < f + m := by omega
      go_wp2_with fail
      refine (shas_is true _ _ _ _ _ _ _ _ H.out (by rw [show ((f : Int) + (j : Int)).toNat = f + j by omega, HB.out, Bool.and_true]; exact decide_eq_true (by omega))).mono ?_
      rintro e w' ⟨rfl, rfl⟩
      go_wp2_with fail
      go_round
      case rel => exact ⟨j + 1, by omega, by go_num⟩
      case measure => simp [intOf]; omega
    · obtain rfl : j = m := by omega
      go_wp2_with fail
      go_ret
      exact ⟨rfl, rfl⟩

theorem below_only {lo hi : Nat} {a w w' : World} (h : Below a.heap.size a w) (ho : Only lo hi w w') (hl : a.heap.size ≤ lo) : Below a.heap.size a w' := h.trans (ho.1.mono hl)
end Go.Proofs.YtljjcomedjdpaaaDoor
namespace Go.Proofs.YtljjcomedjdpaaaDoor
set_option maxRecDepth 100000
open Go.RowKit
set_option linter.unusedVariables false
set_option linter.unusedSimpArgs false

theorem whole_cut {ws : List Nat} {f m j : Nat} (h : bitB ws (f + j) = false) (hj : j < m) : wholeB ws f m = false := by
  cases hw : wholeB ws f m with
  | false => rfl
  | true => rw [whole_at hw hj] at h; cases h
set_option maxHeartbeats 800000 in
theorem swhole_near (lo hi g : Nat) (W : World) (n c : Int) (f m : Nat) (ws : List Nat) (h : SetIs lo hi g W n c ws) (hf : (f : Int) + m ≤ n) :
    Calls Tryd.prog 94 #[.pointer (some ⟨g, 0, none⟩), .int .i64 f, .int .i64 m] W fun e w' => e = .returned (.bool (wholeB ws f m)) ∧ W = w' := by
  have H := Lib.hid h
  obtain ⟨_, ⟨n0, n1, n2⟩, c0, _⟩ := h
  have t1 : (m : Int) ≤ n := by omega
  have t2 : (f : Int) ≤ n - m := by omega
  have d1 : decide ((f : Int) < 0) = false := decide_eq_false (by omega)
  have d2 : decide ((m : Int) < 0) = false := decide_eq_false (by omega)
  have d3 : decide (n < (m : Int)) = false := decide_eq_false (by omega)
  have d4 : decide (n - (m : Int) < (f : Int)) = false := decide_eq_false (by omega)
  go_enter Tryd.func94, Tryd.ntmps94
  go_wp2_with fail
  go_loop [7] (fun v => ∃ j : Nat, j ≤ m ∧ Hid (wholeB ws f j = true) ∧ v = .int .i64 ((f : Int) + j)) (fun v => ((f : Int) + m - intOf v).toNat)
  case atStart => exact ⟨0, by omega, Lib.hid rfl, by simp⟩
  case round =>
    obtain ⟨j, hj, HJ, rfl⟩ := hrel
    by_cases hlt : j < m
    · have l1 : (f : Int) + j < f + m := by omega
      rcases Bool.eq_false_or_eq_true (bitB ws (f + j)) with hb | hb
      · have HB := Lib.hid hb; clear hb
        go_wp2_with fail
        refine (shas_is true _ _ _ _ _ _ _ _ H.out (by rw [show ((f : Int) + (j : Int)).toNat = f + j by omega, HB.out, Bool.and_true]; exact decide_eq_true (by omega))).mono ?_
        rintro e w' ⟨rfl, rfl⟩
        go_wp2_with fail
        go_round
        case rel => exact ⟨j + 1, by omega, Lib.hid (by rw [wholeB, HJ.out, HB.out]; rfl), by go_num⟩
        case measure => simp [intOf]; omega
      · have HB := Lib.hid hb; clear hb
        go_wp2_with fail
        refine (shas_is false _ _ _ _ _ _ _ _ H.out (by rw [show ((f : Int) + (j : Int)).toNat = f + j by omega, HB.out, Bool.and_false])).mono ?_
        rintro e w' ⟨rfl, rfl⟩
        go_wp2_with fail
        go_ret
        exact ⟨ret_bool (whole_cut HB.out hlt).symm, rfl⟩
    · obtain rfl : j = m := by omega
      go_wp2_with fail
      go_ret
      exact ⟨ret_bool HJ.out.symm, rfl⟩
theorem swhole_far (lo hi g : Nat) (W : World) (n c : Int) (f m : Int) (ws : List Nat) (h : SetIs lo hi g W n c ws) (hf : ¬ (0 ≤ f ∧ 0 ≤ m ∧ m ≤ n ∧ f ≤ n - m)) :
    Calls Tryd.prog 94 #[.pointer (some ⟨g, 0, none⟩), .int .i64 f, .int .i64 m] W fun e w' => e = .returned (.bool false) ∧ W = w' := by
  obtain ⟨_, ⟨n0, n1, n2⟩, c0, _⟩ := h
  by_cases h1 : f < 0
  · go_enter Tryd.func94, Tryd.ntmps94
    go_wp2
    go_ret
    exact ⟨rfl, rfl⟩
  have d1 : decide (f < 0) = false := decide_eq_false h1
  by_cases h2 : m < 0
  · go_enter Tryd.func94, Tryd.ntmps94
    go_wp2
    go_ret
    exact ⟨rfl, rfl⟩
  have d2 : decide (m < 0) = false := decide_eq_false h2
  by_cases h3 : n < m
  · have d3 : decide (n < m) = true := decide_eq_true h3
    go_enter Tryd.func94, Tryd.ntmps94
    go_wp2
    go_ret
    exact ⟨rfl, rfl⟩
  have d3 : decide (n < m) = false := decide_eq_false h3
  have h4 : n - m < f := by omega
  have d4 : decide (n - m < f) = true := decide_eq_true h4
  clear hf
  go_enter Tryd.func94, Tryd.ntmps94
  go_wp2
  go_ret
  exact ⟨rfl, rfl⟩
theorem swhole_is (r : Bool) (lo hi g : Nat) (W : World) (n c : Int) (f m : Int) (ws : List Nat) (h : SetIs lo hi g W n c ws) (hr : (decide (0 ≤ f ∧ 0 ≤ m ∧ m ≤ n ∧ f ≤ n - m) && wholeB ws f.toNat m.toNat) = r) :
    Calls Tryd.prog 94 #[.pointer (some ⟨g, 0, none⟩), .int .i64 f, .int .i64 m] W fun e w' => e = .returned (.bool r) ∧ W = w' := by
  subst hr
  by_cases hf : 0 ≤ f ∧ 0 ≤ m ∧ m ≤ n ∧ f ≤ n - m
  · rw [decide_eq_true hf, Bool.true_and]
    have := swhole_near lo hi g W n c f.toNat m.toNat ws h (by omega)
    rw [show ((f.toNat : Nat) : Int) = f by omega, show ((m.toNat : Nat) : Int) = m by omega] at this
    exact this
  · rw [decide_eq_false hf, Bool.false_and]
    exact swhole_far lo hi g W n c f m ws h hf

end Go.Proofs.YtljjcomedjdpaaaDoor

