/- Contracts of package perm: Read. -/
import Derived.Test.YtlajhhecipabaaaPerm
namespace Go.Proofs.Ytlajhhecipabaaa
open Go.RowKit
set_option linter.unusedVariables false

def rdV (x0 x1 x2 x3 x4 : Int) (k : Nat) : Int :=
  (if 0 < k ∧ x0 = 114 then 1 else 0) + (if 1 < k ∧ x1 = 119 then 2 else 0) + (if 2 < k ∧ x2 = 82 then 4 else 0) + (if 3 < k ∧ x3 = 87 then 8 else 0) + (if 4 < k ∧ x4 = 102 then 16 else 0)
def rdG (x0 x1 x2 x3 x4 : Int) (k : Nat) : Prop :=
  (0 < k → x0 = 114 ∨ x0 = 45) ∧ (1 < k → x1 = 119 ∨ x1 = 45) ∧ (2 < k → x2 = 82 ∨ x2 = 45) ∧ (3 < k → x3 = 87 ∨ x3 = 45) ∧ (4 < k → x4 = 102 ∨ x4 = 45)
theorem or_bit (d p : Int) (hd : d = 1 ∨ d = 2 ∨ d = 4 ∨ d = 8 ∨ d = 16) (h : 0 ≤ p ∧ p < d) : bits .or .i64 p d = p + d := by
  have key : ∀ n : Fin 16, ∀ e : Fin 5, n.val < 2 ^ e.val → bits .or .i64 (n.val : Int) ((2 ^ e.val : Nat) : Int) = (n.val : Int) + ((2 ^ e.val : Nat) : Int) := by decide +kernel
  obtain ⟨n, rfl⟩ : ∃ n : Fin 16, p = (n.val : Int) := ⟨⟨p.toNat, by omega⟩, (Int.toNat_of_nonneg h.1).symm⟩
  rcases hd with rfl | rfl | rfl | rfl | rfl
  · exact key n 0 (by have := h.2; show n.val < 1; omega)
  · exact key n 1 (by have := h.2; show n.val < 2; omega)
  · exact key n 2 (by have := h.2; show n.val < 4; omega)
  · exact key n 3 (by have := h.2; show n.val < 8; omega)
  · exact key n 4 (by have := h.2; show n.val < 16; omega)

def rdL : Nat → Int
  | 0 => 114 | 1 => 119 | 2 => 82 | 3 => 87 | _ => 102
theorem rd_yes {x0 x1 x2 x3 x4 y : Int} {k : Nat} (hk : k < 5) (hx : [x0, x1, x2, x3, x4].getD k 0 = rdL k) (hy : y = rdV x0 x1 x2 x3 x4 k) (hg : rdG x0 x1 x2 x3 x4 k) (hb : 0 ≤ y ∧ y < 2 ^ k) :
    bits .or .i64 y (2 ^ k) = y + 2 ^ k ∧ y + 2 ^ k = rdV x0 x1 x2 x3 x4 (k + 1) ∧ rdG x0 x1 x2 x3 x4 (k + 1) ∧ 0 ≤ y + 2 ^ k ∧ y + 2 ^ k < 2 ^ (k + 1) := by
  have hc : k = 0 ∨ k = 1 ∨ k = 2 ∨ k = 3 ∨ k = 4 := by omega
  rcases hc with rfl | rfl | rfl | rfl | rfl
  all_goals
    simp [rdL] at hx
    simp [rdG] at hg
    simp [rdV] at hy
    refine ⟨or_bit _ _ (by omega) (by omega), ?_, ?_, by omega, by omega⟩
    · simp [rdV, hx, hy]
    · simp [rdG, hx]; try omega
theorem rd_dash {x0 x1 x2 x3 x4 y : Int} {k : Nat} (hk : k < 5) (hx : [x0, x1, x2, x3, x4].getD k 0 = 45) (hy : y = rdV x0 x1 x2 x3 x4 k) (hg : rdG x0 x1 x2 x3 x4 k) (hb : 0 ≤ y ∧ y < 2 ^ k) :
    y = rdV x0 x1 x2 x3 x4 (k + 1) ∧ rdG x0 x1 x2 x3 x4 (k + 1) ∧ 0 ≤ y ∧ y < 2 ^ (k + 1) := by
  have hc : k = 0 ∨ k = 1 ∨ k = 2 ∨ k = 3 ∨ k = 4 := by omega
  rcases hc with rfl | rfl | rfl | rfl | rfl
  all_goals
    simp at hx
    simp [rdG] at hg
    simp [rdV] at hy
    refine ⟨?_, ?_, by omega, by omega⟩
    · simp [rdV, hx, hy]
    · simp [rdG, hx]; try omega
theorem rd_no {x0 x1 x2 x3 x4 : Int} {k : Nat} (hk : k < 5) (h1 : ¬ [x0, x1, x2, x3, x4].getD k 0 = rdL k) (h2 : ¬ [x0, x1, x2, x3, x4].getD k 0 = 45) : ¬ rdG x0 x1 x2 x3 x4 5 := by
  have hc : k = 0 ∨ k = 1 ∨ k = 2 ∨ k = 3 ∨ k = 4 := by omega
  rcases hc with rfl | rfl | rfl | rfl | rfl
  all_goals
    simp [rdL] at h1 h2
    simp [rdG]
    omega
def byteI (s : ByteArray) (i : Nat) : Int := ((s.data.toList.getD i 0).toNat : Int)
/-- What is read of a text. -/
def readOkP (s : ByteArray) : Prop := s.size = 5 ∧ rdG (byteI s 0) (byteI s 1) (byteI s 2) (byteI s 3) (byteI s 4) 5
def readVI (s : ByteArray) : Int := rdV (byteI s 0) (byteI s 1) (byteI s 2) (byteI s 3) (byteI s 4) 5
theorem byteI_at {s : ByteArray} {i : Nat} (h : i < s.size) : ((s[i]'h).toNat : Int) = byteI s i := by
  have h' : i < s.data.toList.length := by simpa using h
  unfold byteI
  rw [List.getD_eq_getElem?_getD, List.getElem?_eq_getElem h']
  rfl

theorem read_short (s : ByteArray) (w : World) (h : ¬ s.size = 5) :
    Calls Try.prog 21 #[.string s] w fun e w' => e = .returned (.tuple #[.int .i64 0, .bool false]) ∧ w = w' := by
  have h2 : ((s.size : Int) != 5) = true := by simp; omega
  clear h
  go_enter Try.func21, Try.ntmps21
  go_wp2
  go_ret2
  exact ⟨rfl, rfl⟩

def ReadPost (x0 x1 x2 x3 x4 : Int) (w : World) (e : Ending) (w' : World) : Prop :=
  w = w' ∧ (rdG x0 x1 x2 x3 x4 5 ∧ e = .returned (.tuple #[.int .i64 (rdV x0 x1 x2 x3 x4 5), .bool true]) ∨ ¬ rdG x0 x1 x2 x3 x4 5 ∧ e = .returned (.tuple #[.int .i64 0, .bool false]))

set_option maxHeartbeats 1000000 in
theorem read_five (s : ByteArray) (w : World) (x0 x1 x2 x3 x4 : Int) (hs : s.size = 5) (g0 : ∀ h : 0 < s.size, ((s[0]'h).toNat : Int) = x0) (g1 : ∀ h : 1 < s.size, ((s[1]'h).toNat : Int) = x1) (g2 : ∀ h : 2 < s.size, ((s[2]'h).toNat : Int) = x2) (g3 : ∀ h : 3 < s.size, ((s[3]'h).toNat : Int) = x3) (g4 : ∀ h : 4 < s.size, ((s[4]'h).toNat : Int) = x4) :
    Calls Try.prog 21 #[.string s] w (ReadPost x0 x1 x2 x3 x4 w) := by
  go_enter Try.func21, Try.ntmps21
  go_wp2_with fail
  go_loop [4, 9] (fun p i => ∃ k : Nat, ∃ y : Int, k ≤ 5 ∧ i = .int .i64 k ∧ p = .int .i64 y ∧ Hid (y = rdV x0 x1 x2 x3 x4 k) ∧ Hid (rdG x0 x1 x2 x3 x4 k) ∧ Hid (0 ≤ y ∧ y < 2 ^ k)) (fun _ i => 5 - (intOf i).toNat)
  case atStart => exact ⟨0, 0, by omega, rfl, rfl, Lib.hid (by simp [rdV]), Lib.hid (by simp [rdG]), Lib.hid (by omega)⟩
  case round =>
    obtain ⟨k, y, hk, rfl, rfl, HV, HG, HB⟩ := hrel
    have hc : k = 0 ∨ k = 1 ∨ k = 2 ∨ k = 3 ∨ k = 4 ∨ k = 5 := by omega
    rcases hc with rfl | rfl | rfl | rfl | rfl | rfl
    · go_wp2
      · have hx : x0 = 114 := eq_of_beq (show (x0 == (114 : Int)) = true by assumption)
        obtain ⟨q1, q2, q3, q4⟩ := rd_yes (k := 0) (by decide) hx HV.out HG.out HB.out
        exact ⟨⟨1, _, by omega, rfl, congrArg (Value.int .i64) q1, Lib.hid q2, Lib.hid q3, Lib.hid q4⟩, by simp [intOf]⟩
      · have hx : x0 = 45 := eq_of_beq (show (x0 == (45 : Int)) = true by assumption)
        obtain ⟨q2, q3, q4⟩ := rd_dash (k := 0) (by decide) hx HV.out HG.out HB.out
        exact ⟨⟨1, _, by omega, rfl, rfl, Lib.hid q2, Lib.hid q3, Lib.hid q4⟩, by simp [intOf]⟩
      · have h1 : ¬ x0 = 114 := ne_of_beq_false (show (x0 == (114 : Int)) = false by assumption)
        have h2 : ¬ x0 = 45 := ne_of_beq_false (show (x0 == (45 : Int)) = false by assumption)
        go_ret2
        exact ⟨rfl, .inr ⟨rd_no (k := 0) (by decide) h1 h2, rfl⟩⟩
    · go_wp2
      · have hx : x1 = 119 := eq_of_beq (show (x1 == (119 : Int)) = true by assumption)
        obtain ⟨q1, q2, q3, q4⟩ := rd_yes (k := 1) (by decide) hx HV.out HG.out HB.out
        exact ⟨⟨2, _, by omega, rfl, congrArg (Value.int .i64) q1, Lib.hid q2, Lib.hid q3, Lib.hid q4⟩, by simp [intOf]⟩
      · have hx : x1 = 45 := eq_of_beq (show (x1 == (45 : Int)) = true by assumption)
        obtain ⟨q2, q3, q4⟩ := rd_dash (k := 1) (by decide) hx HV.out HG.out HB.out
        exact ⟨⟨2, _, by omega, rfl, rfl, Lib.hid q2, Lib.hid q3, Lib.hid q4⟩, by simp [intOf]⟩
      · have h1 : ¬ x1 = 119 := ne_of_beq_false (show (x1 == (119 : Int)) = false by assumption)
        have h2 : ¬ x1 = 45 := ne_of_beq_false (show (x1 == (45 : Int)) = false by assumption)
        go_ret2
        exact ⟨rfl, .inr ⟨rd_no (k := 1) (by decide) h1 h2, rfl⟩⟩
    · go_wp2
      · have hx : x2 = 82 := eq_of_beq (show (x2 == (82 : Int)) = true by assumption)
        obtain ⟨q1, q2, q3, q4⟩ := rd_yes (k := 2) (by decide) hx HV.out HG.out HB.out
        exact ⟨⟨3, _, by omega, rfl, congrArg (Value.int .i64) q1, Lib.hid q2, Lib.hid q3, Lib.hid q4⟩, by simp [intOf]⟩
      · have hx : x2 = 45 := eq_of_beq (show (x2 == (45 : Int)) = true by assumption)
        obtain ⟨q2, q3, q4⟩ := rd_dash (k := 2) (by decide) hx HV.out HG.out HB.out
        exact ⟨⟨3, _, by omega, rfl, rfl, Lib.hid q2, Lib.hid q3, Lib.hid q4⟩, by simp [intOf]⟩
      · have h1 : ¬ x2 = 82 := ne_of_beq_false (show (x2 == (82 : Int)) = false by assumption)
        have h2 : ¬ x2 = 45 := ne_of_beq_false (show (x2 == (45 : Int)) = false by assumption)
        go_ret2
        exact ⟨rfl, .inr ⟨rd_no (k := 2) (by decide) h1 h2, rfl⟩⟩
    · go_wp2
      · have hx : x3 = 87 := eq_of_beq (show (x3 == (87 : Int)) = true by assumption)
        obtain ⟨q1, q2, q3, q4⟩ := rd_yes (k := 3) (by decide) hx HV.out HG.out HB.out
        exact ⟨⟨4, _, by omega, rfl, congrArg (Value.int .i64) q1, Lib.hid q2, Lib.hid q3, Lib.hid q4⟩, by simp [intOf]⟩
      · have hx : x3 = 45 := eq_of_beq (show (x3 == (45 : Int)) = true by assumption)
        obtain ⟨q2, q3, q4⟩ := rd_dash (k := 3) (by decide) hx HV.out HG.out HB.out
        exact ⟨⟨4, _, by omega, rfl, rfl, Lib.hid q2, Lib.hid q3, Lib.hid q4⟩, by simp [intOf]⟩
      · have h1 : ¬ x3 = 87 := ne_of_beq_false (show (x3 == (87 : Int)) = false by assumption)
        have h2 : ¬ x3 = 45 := ne_of_beq_false (show (x3 == (45 : Int)) = false by assumption)
        go_ret2
        exact ⟨rfl, .inr ⟨rd_no (k := 3) (by decide) h1 h2, rfl⟩⟩
    · go_wp2
      · have hx : x4 = 102 := eq_of_beq (show (x4 == (102 : Int)) = true by assumption)
        obtain ⟨q1, q2, q3, q4⟩ := rd_yes (k := 4) (by decide) hx HV.out HG.out HB.out
        exact ⟨⟨5, _, by omega, rfl, congrArg (Value.int .i64) q1, Lib.hid q2, Lib.hid q3, Lib.hid q4⟩, by simp [intOf]⟩
      · have hx : x4 = 45 := eq_of_beq (show (x4 == (45 : Int)) = true by assumption)
        obtain ⟨q2, q3, q4⟩ := rd_dash (k := 4) (by decide) hx HV.out HG.out HB.out
        exact ⟨⟨5, _, by omega, rfl, rfl, Lib.hid q2, Lib.hid q3, Lib.hid q4⟩, by simp [intOf]⟩
      · have h1 : ¬ x4 = 102 := ne_of_beq_false (show (x4 == (102 : Int)) = false by assumption)
        have h2 : ¬ x4 = 45 := ne_of_beq_false (show (x4 == (45 : Int)) = false by assumption)
        go_ret2
        exact ⟨rfl, .inr ⟨rd_no (k := 4) (by decide) h1 h2, rfl⟩⟩
    · go_wp2
      go_ret2
      exact ⟨rfl, .inl ⟨HG.out, by rw [← HV.out]; rfl⟩⟩

theorem read_any (s : ByteArray) (w : World) :
    Calls Try.prog 21 #[.string s] w fun e w' => w = w' ∧ (readOkP s ∧ e = .returned (.tuple #[.int .i64 (readVI s), .bool true]) ∨ ¬ readOkP s ∧ e = .returned (.tuple #[.int .i64 0, .bool false])) := by
  by_cases h : s.size = 5
  · refine (read_five s w _ _ _ _ _ h (fun h => byteI_at h) (fun h => byteI_at h) (fun h => byteI_at h) (fun h => byteI_at h) (fun h => byteI_at h)).mono ?_
    rintro e w' ⟨hw, ⟨a, b⟩ | ⟨a, b⟩⟩
    · exact ⟨hw, .inl ⟨⟨h, a⟩, b⟩⟩
    · exact ⟨hw, .inr ⟨fun x => a x.2, b⟩⟩
  · refine (read_short s w h).mono ?_
    rintro e w' ⟨a, b⟩
    exact ⟨b, .inr ⟨fun x => h x.1, a⟩⟩
theorem read_yes (s : ByteArray) (w : World) (h : readOkP s) :
    Calls Try.prog 21 #[.string s] w fun e w' => e = .returned (.tuple #[.int .i64 (readVI s), .bool true]) ∧ w = w' :=
  (read_any s w).mono fun e w' ⟨a, b⟩ => ⟨by rcases b with b | b; exact b.2; exact absurd h b.1, a⟩
theorem read_no (s : ByteArray) (w : World) (h : ¬ readOkP s) :
    Calls Try.prog 21 #[.string s] w fun e w' => e = .returned (.tuple #[.int .i64 0, .bool false]) ∧ w = w' :=
  (read_any s w).mono fun e w' ⟨a, b⟩ => ⟨by rcases b with b | b; exact absurd b.1 h; exact b.2, a⟩
end Go.Proofs.Ytlajhhecipabaaa
