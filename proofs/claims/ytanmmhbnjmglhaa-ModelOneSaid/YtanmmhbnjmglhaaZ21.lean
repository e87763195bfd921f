/- MoO. -/
import Derived.Test.YtanmmhbnjmglhaaZ20
namespace Go.Proofs.Ytanmmhbnjmglhaa
set_option maxRecDepth 100000
open Go.RowKit Go.ChangeMaps Go.MapKept
set_option linter.unusedVariables false
set_option linter.unusedSimpArgs false
def uA (k : Int) : Prop := k = 1 ∨ k = 2 ∨ k = 3 ∨ k = 18 ∨ k = 5 ∨ k = 7 ∨ k = 8 ∨ k = 9 ∨ k = 10 ∨ k = 13
def uB (k : Int) : Prop := k = 5 ∨ k = 7 ∨ k = 8 ∨ k = 9 ∨ k = 10 ∨ k = 13 ∨ k = 4 ∨ k = 6 ∨ k = 11 ∨ k = 12 ∨ k = 14
instance (k : Int) : Decidable (uA k) := by unfold uA; infer_instance
instance (k : Int) : Decidable (uB k) := by unfold uB; infer_instance
/-- What a thing is refused for. -/
def refE (N : Nat) (k a b v n : Int) (ln : Nat) : Int :=
  if k < 1 ∨ 18 < k then 1
  else if (uA k ∧ (a < 0 ∨ (N : Int) ≤ a)) ∨ (uB k ∧ (b < 0 ∨ (N : Int) ≤ b)) ∨ (k = 14 ∧ (v < 0 ∨ (N : Int) ≤ v)) then 15
  else if (k = 11 ∧ 4096 < n) ∨ (k = 12 ∧ 4096 < (ln : Int)) then 4 else 0
/-- What comes of a thing that is not refused, where there are no chunks. -/
def kE (C : Cf) (k t n mm : Int) (full : Bool) : Int :=
  if k = 1 then askE C t n full else if k = 2 then calE C t n mm full else if k = 3 then (if malB mm = true then askE C t n full else 1)
  else if k = 4 then (if t < 0 ∨ C.th ≤ t then 1 else 7) else if k = 5 then reE C t n
  else if k = 6 ∨ k = 7 ∨ k = 8 ∨ k = 9 ∨ (11 ≤ k ∧ k ≤ 14) then 7 else 0
def doE (C : Cf) (N : Nat) (k t a b v n mm : Int) (ln : Nat) (full : Bool) : Int := if refE N k a b v n ln = 0 then kE C k t n mm full else refE N k a b v n ln
/-- What Do leaves. -/
def DP (m mb r : Nat) (C : Cf) (md : Nat) (rs : List Rf) (k a n mm E : Int) (W w' : World) : Prop :=
  if E = 0 ∧ (k = 1 ∨ k = 2 ∨ k = 3) then DG m mb r C md rs a.toNat (if k = 2 then n * mm else n).toNat (if k = 2 then 0 else C.fi) W w'
  else if E = 0 ∧ (k = 10 ∨ k = 18) then D0 m mb r C md rs a.toNat W w' else Below W.heap.size W w'
section
variable {m mb r : Nat} {C : Cf} {md : Nat} {rs : List Rf} {W w' : World} {k a n mm E : Int}
theorem dpB (h : ¬ (E = 0 ∧ (k = 1 ∨ k = 2 ∨ k = 3 ∨ k = 10 ∨ k = 18))) (hb : Below W.heap.size W w') : DP m mb r C md rs k a n mm E W w' := by
  unfold DP; rw [if_neg (by omega), if_neg (by omega)]; exact hb
theorem dp0 (hE : E = 0) (h : k = 10 ∨ k = 18) (hb : D0 m mb r C md rs a.toNat W w') : DP m mb r C md rs k a n mm E W w' := by
  unfold DP; rw [if_neg (by omega), if_pos (by omega)]; exact hb
theorem dpG (hE : E = 0) (h : k = 1 ∨ k = 2 ∨ k = 3) (hb : DG m mb r C md rs a.toNat (if k = 2 then n * mm else n).toNat (if k = 2 then 0 else C.fi) W w') : DP m mb r C md rs k a n mm E W w' := by
  unfold DP; rw [if_pos ⟨hE, h⟩]; exact hb
theorem askE_0 {t : Int} {full : Bool} (h : askE C t n full = 0) : 1 ≤ n ∧ n ≤ C.mo ∧ full = false := by
  unfold askE at h
  split at h
  · cases h
  · split at h
    · cases h
    · split at h
      · cases h
      · rename_i _ _ h3
        exact ⟨by omega, by omega, by simpa using h3⟩
theorem calE_0 {t : Int} {full : Bool} (h : calE C t n mm full = 0) (h0 : 0 ≤ C.mo) : 1 ≤ n * mm ∧ full = false := by
  unfold calE at h
  split at h
  · cases h
  · split at h
    · cases h
    · split at h
      · cases h
      · rename_i _ h2 h3
        exact ⟨(cal_prod (by omega) (by omega) h2 h0).1, by simpa using h3⟩
end
section
variable {m mb r : Nat} {C : Cf} {md : Nat} {rs : List Rf} {W : World}
theorem mdoK1 (t a b v n mm : Int) (P : Option Addr) (ln cp : Nat) (full : Bool) (hmd9 : md < 1000) (hmax : mm ≤ 9223372036854775807) (h : MO m mb r C md [] rs W) : Calls Try.prog 10 #[.pointer (some ⟨m, 0, none⟩), opv 1 t a b v n mm P ln cp, .bool full] W fun e w' => e = .returned (.agg #[rE (doE C rs.length 1 t a b v n mm ln full), .int .i64 0, .slice none 0 0]) ∧ DP m mb r C md rs 1 a n mm (doE C rs.length 1 t a b v n mm ln full) W w' := by
  by_cases b0 : a < 0 ∨ (rs.length : Int) ≤ a
  · have e1 : refE rs.length 1 a b v n ln = 15 := by unfold refE uA uB; rw [if_neg (by omega), if_pos (by omega)]
    have e2 : doE C rs.length 1 t a b v n mm ln full = 15 := by unfold doE; rw [e1]; rfl
    rw [e2]
    exact (mdo_refused 1 t a b v n mm P ln cp full 15 (by decide) (fun W => kref1_r0 t a b v n mm P ln cp W _ b0) h).mono fun e w' h9 => ⟨h9.1, dpB (by omega) h9.2⟩
  have g0 : 0 ≤ a ∧ a < (rs.length : Int) := by omega
  clear b0
  have e1 : refE rs.length 1 a b v n ln = 0 := by unfold refE uA uB; rw [if_neg (by omega), if_neg (by omega), if_neg (by omega)]
  have e2 : doE C rs.length 1 t a b v n mm ln full = askE C t n full := by unfold doE; rw [if_pos e1]; simp [kE]
  rw [e2]
  by_cases hE : askE C t n full = 0
  · have h0 := askE_0 hE
    obtain ⟨p, hp⟩ : ∃ p : Nat, n = (p : Int) := ⟨(n).toNat, by omega⟩
    have hf : full = false := h0.2.2
    have hE9 : askE C t (p : Int) false = 0 := by rw [← hp, ← hf]; exact hE
    rw [hE]
    refine (mdo_ok 1 t a b v n mm P ln cp full p C.fi a.toNat hmd9 (by omega) (by omega) (fun W => kref1_ok t a b v n mm P ln cp W _ g0) (fun W => kquiet1 t a b v n mm P ln cp W) (fun W => kcomes1 t a b v n mm P ln cp W) (fun W hW => mcome1_ok t a b v n mm P ln cp full p hp hmd9 hE9 hf hW) h).mono fun e w' h9 => ⟨h9.1, dpG rfl (by omega) ?_⟩
    have e5 : (if (1 : Int) = 2 then n * mm else n).toNat = p := by rw [if_neg (by decide)]; omega
    rw [e5, if_neg (by decide)]
    exact h9.2
  · exact (mdo_err 1 t a b v n mm P ln cp full (askE C t n full) hE (fun W => kref1_ok t a b v n mm P ln cp W _ g0) (fun W => kquiet1 t a b v n mm P ln cp W) (fun W => kcomes1 t a b v n mm P ln cp W) (fun W hW => mcome1_err t a b v n mm P ln cp full hE hW) h).mono fun e w' h9 => ⟨h9.1, dpB (by omega) h9.2⟩
theorem mdoK2 (t a b v n mm : Int) (P : Option Addr) (ln cp : Nat) (full : Bool) (hmd9 : md < 1000) (hmax : mm ≤ 9223372036854775807) (h : MO m mb r C md [] rs W) : Calls Try.prog 10 #[.pointer (some ⟨m, 0, none⟩), opv 2 t a b v n mm P ln cp, .bool full] W fun e w' => e = .returned (.agg #[rE (doE C rs.length 2 t a b v n mm ln full), .int .i64 0, .slice none 0 0]) ∧ DP m mb r C md rs 2 a n mm (doE C rs.length 2 t a b v n mm ln full) W w' := by
  by_cases b0 : a < 0 ∨ (rs.length : Int) ≤ a
  · have e1 : refE rs.length 2 a b v n ln = 15 := by unfold refE uA uB; rw [if_neg (by omega), if_pos (by omega)]
    have e2 : doE C rs.length 2 t a b v n mm ln full = 15 := by unfold doE; rw [e1]; rfl
    rw [e2]
    exact (mdo_refused 2 t a b v n mm P ln cp full 15 (by decide) (fun W => kref2_r0 t a b v n mm P ln cp W _ b0) h).mono fun e w' h9 => ⟨h9.1, dpB (by omega) h9.2⟩
  have g0 : 0 ≤ a ∧ a < (rs.length : Int) := by omega
  clear b0
  have e1 : refE rs.length 2 a b v n ln = 0 := by unfold refE uA uB; rw [if_neg (by omega), if_neg (by omega), if_neg (by omega)]
  have e2 : doE C rs.length 2 t a b v n mm ln full = calE C t n mm full := by unfold doE; rw [if_pos e1]; simp [kE]
  rw [e2]
  by_cases hE : calE C t n mm full = 0
  · have h0 := calE_0 hE h.ok.1.2.1.1
    obtain ⟨p, hp⟩ : ∃ p : Nat, n * mm = (p : Int) := ⟨(n * mm).toNat, by omega⟩
    have hf : full = false := h0.2
    rw [hE]
    refine (mdo_ok 2 t a b v n mm P ln cp full p 0 a.toNat hmd9 (by omega) (by omega) (fun W => kref2_ok t a b v n mm P ln cp W _ g0) (fun W => kquiet2 t a b v n mm P ln cp W) (fun W => kcomes2 t a b v n mm P ln cp W) (fun W hW => mcome2_ok t a b v n mm P ln cp full p hp hmd9 hE hf hW) h).mono fun e w' h9 => ⟨h9.1, dpG rfl (by omega) ?_⟩
    have e5 : (if (2 : Int) = 2 then n * mm else n).toNat = p := by rw [if_pos rfl]; omega
    rw [e5, if_pos rfl]
    exact h9.2
  · exact (mdo_err 2 t a b v n mm P ln cp full (calE C t n mm full) hE (fun W => kref2_ok t a b v n mm P ln cp W _ g0) (fun W => kquiet2 t a b v n mm P ln cp W) (fun W => kcomes2 t a b v n mm P ln cp W) (fun W hW => mcome2 t a b v n mm P ln cp full hE hW) h).mono fun e w' h9 => ⟨h9.1, dpB (by omega) h9.2⟩
theorem mdoK3 (t a b v n mm : Int) (P : Option Addr) (ln cp : Nat) (full : Bool) (hmd9 : md < 1000) (hmax : mm ≤ 9223372036854775807) (h : MO m mb r C md [] rs W) : Calls Try.prog 10 #[.pointer (some ⟨m, 0, none⟩), opv 3 t a b v n mm P ln cp, .bool full] W fun e w' => e = .returned (.agg #[rE (doE C rs.length 3 t a b v n mm ln full), .int .i64 0, .slice none 0 0]) ∧ DP m mb r C md rs 3 a n mm (doE C rs.length 3 t a b v n mm ln full) W w' := by
  by_cases b0 : a < 0 ∨ (rs.length : Int) ≤ a
  · have e1 : refE rs.length 3 a b v n ln = 15 := by unfold refE uA uB; rw [if_neg (by omega), if_pos (by omega)]
    have e2 : doE C rs.length 3 t a b v n mm ln full = 15 := by unfold doE; rw [e1]; rfl
    rw [e2]
    exact (mdo_refused 3 t a b v n mm P ln cp full 15 (by decide) (fun W => kref3_r0 t a b v n mm P ln cp W _ b0) h).mono fun e w' h9 => ⟨h9.1, dpB (by omega) h9.2⟩
  have g0 : 0 ≤ a ∧ a < (rs.length : Int) := by omega
  clear b0
  have e1 : refE rs.length 3 a b v n ln = 0 := by unfold refE uA uB; rw [if_neg (by omega), if_neg (by omega), if_neg (by omega)]
  by_cases hal : malB mm = false
  · have e2 : doE C rs.length 3 t a b v n mm ln full = 1 := by unfold doE; rw [if_pos e1]; simp [kE, hal]
    rw [e2]
    exact (mdo_err 3 t a b v n mm P ln cp full 1 (by decide) (fun W => kref3_ok t a b v n mm P ln cp W _ g0) (fun W => kquiet3 t a b v n mm P ln cp W) (fun W => kcomes3 t a b v n mm P ln cp W) (fun W hW => mcome3_bad t a b v n mm P ln cp full hmax hal hW) h).mono fun e w' h9 => ⟨h9.1, dpB (by omega) h9.2⟩
  rw [Bool.not_eq_false] at hal
  have e2 : doE C rs.length 3 t a b v n mm ln full = askE C t n full := by unfold doE; rw [if_pos e1]; simp [kE, hal]
  rw [e2]
  by_cases hE : askE C t n full = 0
  · have h0 := askE_0 hE
    obtain ⟨p, hp⟩ : ∃ p : Nat, n = (p : Int) := ⟨(n).toNat, by omega⟩
    have hf : full = false := h0.2.2
    have hE9 : askE C t (p : Int) false = 0 := by rw [← hp, ← hf]; exact hE
    rw [hE]
    refine (mdo_ok 3 t a b v n mm P ln cp full p C.fi a.toNat hmd9 (by omega) (by omega) (fun W => kref3_ok t a b v n mm P ln cp W _ g0) (fun W => kquiet3 t a b v n mm P ln cp W) (fun W => kcomes3 t a b v n mm P ln cp W) (fun W hW => mcome3_ok t a b v n mm P ln cp full p hp hal hmd9 hE9 hf hW) h).mono fun e w' h9 => ⟨h9.1, dpG rfl (by omega) ?_⟩
    have e5 : (if (3 : Int) = 2 then n * mm else n).toNat = p := by rw [if_neg (by decide)]; omega
    rw [e5, if_neg (by decide)]
    exact h9.2
  · exact (mdo_err 3 t a b v n mm P ln cp full (askE C t n full) hE (fun W => kref3_ok t a b v n mm P ln cp W _ g0) (fun W => kquiet3 t a b v n mm P ln cp W) (fun W => kcomes3 t a b v n mm P ln cp W) (fun W hW => mcome3_err t a b v n mm P ln cp full hal hE hW) h).mono fun e w' h9 => ⟨h9.1, dpB (by omega) h9.2⟩
theorem mdoK4 (t a b v n mm : Int) (P : Option Addr) (ln cp : Nat) (full : Bool) (hmd9 : md < 1000) (hmax : mm ≤ 9223372036854775807) (h : MO m mb r C md [] rs W) : Calls Try.prog 10 #[.pointer (some ⟨m, 0, none⟩), opv 4 t a b v n mm P ln cp, .bool full] W fun e w' => e = .returned (.agg #[rE (doE C rs.length 4 t a b v n mm ln full), .int .i64 0, .slice none 0 0]) ∧ DP m mb r C md rs 4 a n mm (doE C rs.length 4 t a b v n mm ln full) W w' := by
  by_cases b0 : b < 0 ∨ (rs.length : Int) ≤ b
  · have e1 : refE rs.length 4 a b v n ln = 15 := by unfold refE uA uB; rw [if_neg (by omega), if_pos (by omega)]
    have e2 : doE C rs.length 4 t a b v n mm ln full = 15 := by unfold doE; rw [e1]; rfl
    rw [e2]
    exact (mdo_refused 4 t a b v n mm P ln cp full 15 (by decide) (fun W => kref4_r0 t a b v n mm P ln cp W _ b0) h).mono fun e w' h9 => ⟨h9.1, dpB (by omega) h9.2⟩
  have g0 : 0 ≤ b ∧ b < (rs.length : Int) := by omega
  clear b0
  have e1 : refE rs.length 4 a b v n ln = 0 := by unfold refE uA uB; rw [if_neg (by omega), if_neg (by omega), if_neg (by omega)]
  have e2 : doE C rs.length 4 t a b v n mm ln full = (if t < 0 ∨ C.th ≤ t then 1 else 7) := by unfold doE; rw [if_pos e1]; simp [kE]
  rw [e2]
  exact (mdo_tell 4 t a b v n mm P ln cp full (if t < 0 ∨ C.th ≤ t then 1 else 7) (fun W => kref4_ok t a b v n mm P ln cp W _ g0) (fun W => kquiet4 t a b v n mm P ln cp W) (fun W => kcomes4 t a b v n mm P ln cp W) (fun W hW => mtell4 t a b v n mm P ln cp hW) h).mono fun e w' h9 => ⟨h9.1, dpB (by omega) h9.2⟩
theorem mdoK5 (t a b v n mm : Int) (P : Option Addr) (ln cp : Nat) (full : Bool) (hmd9 : md < 1000) (hmax : mm ≤ 9223372036854775807) (h : MO m mb r C md [] rs W) : Calls Try.prog 10 #[.pointer (some ⟨m, 0, none⟩), opv 5 t a b v n mm P ln cp, .bool full] W fun e w' => e = .returned (.agg #[rE (doE C rs.length 5 t a b v n mm ln full), .int .i64 0, .slice none 0 0]) ∧ DP m mb r C md rs 5 a n mm (doE C rs.length 5 t a b v n mm ln full) W w' := by
  by_cases b0 : a < 0 ∨ (rs.length : Int) ≤ a
  · have e1 : refE rs.length 5 a b v n ln = 15 := by unfold refE uA uB; rw [if_neg (by omega), if_pos (by omega)]
    have e2 : doE C rs.length 5 t a b v n mm ln full = 15 := by unfold doE; rw [e1]; rfl
    rw [e2]
    exact (mdo_refused 5 t a b v n mm P ln cp full 15 (by decide) (fun W => kref5_r0 t a b v n mm P ln cp W _ b0) h).mono fun e w' h9 => ⟨h9.1, dpB (by omega) h9.2⟩
  have g0 : 0 ≤ a ∧ a < (rs.length : Int) := by omega
  clear b0
  by_cases b1 : b < 0 ∨ (rs.length : Int) ≤ b
  · have e1 : refE rs.length 5 a b v n ln = 15 := by unfold refE uA uB; rw [if_neg (by omega), if_pos (by omega)]
    have e2 : doE C rs.length 5 t a b v n mm ln full = 15 := by unfold doE; rw [e1]; rfl
    rw [e2]
    exact (mdo_refused 5 t a b v n mm P ln cp full 15 (by decide) (fun W => kref5_r1 t a b v n mm P ln cp W _ g0 b1) h).mono fun e w' h9 => ⟨h9.1, dpB (by omega) h9.2⟩
  have g1 : 0 ≤ b ∧ b < (rs.length : Int) := by omega
  clear b1
  have e1 : refE rs.length 5 a b v n ln = 0 := by unfold refE uA uB; rw [if_neg (by omega), if_neg (by omega), if_neg (by omega)]
  have e2 : doE C rs.length 5 t a b v n mm ln full = reE C t n := by unfold doE; rw [if_pos e1]; simp [kE]
  have e3 : reE C t n ≠ 0 := by unfold reE; split <;> (try split) <;> decide
  rw [e2]
  exact (mdo_err 5 t a b v n mm P ln cp full (reE C t n) e3 (fun W => kref5_ok t a b v n mm P ln cp W _ g0 g1) (fun W => kquiet5 t a b v n mm P ln cp W) (fun W => kcomes5 t a b v n mm P ln cp W) (fun W hW => mcome5 t a b v n mm P ln cp full hW) h).mono fun e w' h9 => ⟨h9.1, dpB (by omega) h9.2⟩
theorem mdoK6 (t a b v n mm : Int) (P : Option Addr) (ln cp : Nat) (full : Bool) (hmd9 : md < 1000) (hmax : mm ≤ 9223372036854775807) (h : MO m mb r C md [] rs W) : Calls Try.prog 10 #[.pointer (some ⟨m, 0, none⟩), opv 6 t a b v n mm P ln cp, .bool full] W fun e w' => e = .returned (.agg #[rE (doE C rs.length 6 t a b v n mm ln full), .int .i64 0, .slice none 0 0]) ∧ DP m mb r C md rs 6 a n mm (doE C rs.length 6 t a b v n mm ln full) W w' := by
  by_cases b0 : b < 0 ∨ (rs.length : Int) ≤ b
  · have e1 : refE rs.length 6 a b v n ln = 15 := by unfold refE uA uB; rw [if_neg (by omega), if_pos (by omega)]
    have e2 : doE C rs.length 6 t a b v n mm ln full = 15 := by unfold doE; rw [e1]; rfl
    rw [e2]
    exact (mdo_refused 6 t a b v n mm P ln cp full 15 (by decide) (fun W => kref6_r0 t a b v n mm P ln cp W _ b0) h).mono fun e w' h9 => ⟨h9.1, dpB (by omega) h9.2⟩
  have g0 : 0 ≤ b ∧ b < (rs.length : Int) := by omega
  clear b0
  have e1 : refE rs.length 6 a b v n ln = 0 := by unfold refE uA uB; rw [if_neg (by omega), if_neg (by omega), if_neg (by omega)]
  have e2 : doE C rs.length 6 t a b v n mm ln full = 7 := by unfold doE; rw [if_pos e1]; simp [kE]
  rw [e2]
  exact (mdo_tell 6 t a b v n mm P ln cp full 7 (fun W => kref6_ok t a b v n mm P ln cp W _ g0) (fun W => kquiet6 t a b v n mm P ln cp W) (fun W => kcomes6 t a b v n mm P ln cp W) (fun W hW => mtell6 t a b v n mm P ln cp hW) h).mono fun e w' h9 => ⟨h9.1, dpB (by omega) h9.2⟩
theorem mdoK7 (t a b v n mm : Int) (P : Option Addr) (ln cp : Nat) (full : Bool) (hmd9 : md < 1000) (hmax : mm ≤ 9223372036854775807) (h : MO m mb r C md [] rs W) : Calls Try.prog 10 #[.pointer (some ⟨m, 0, none⟩), opv 7 t a b v n mm P ln cp, .bool full] W fun e w' => e = .returned (.agg #[rE (doE C rs.length 7 t a b v n mm ln full), .int .i64 0, .slice none 0 0]) ∧ DP m mb r C md rs 7 a n mm (doE C rs.length 7 t a b v n mm ln full) W w' := by
  by_cases b0 : a < 0 ∨ (rs.length : Int) ≤ a
  · have e1 : refE rs.length 7 a b v n ln = 15 := by unfold refE uA uB; rw [if_neg (by omega), if_pos (by omega)]
    have e2 : doE C rs.length 7 t a b v n mm ln full = 15 := by unfold doE; rw [e1]; rfl
    rw [e2]
    exact (mdo_refused 7 t a b v n mm P ln cp full 15 (by decide) (fun W => kref7_r0 t a b v n mm P ln cp W _ b0) h).mono fun e w' h9 => ⟨h9.1, dpB (by omega) h9.2⟩
  have g0 : 0 ≤ a ∧ a < (rs.length : Int) := by omega
  clear b0
  by_cases b1 : b < 0 ∨ (rs.length : Int) ≤ b
  · have e1 : refE rs.length 7 a b v n ln = 15 := by unfold refE uA uB; rw [if_neg (by omega), if_pos (by omega)]
    have e2 : doE C rs.length 7 t a b v n mm ln full = 15 := by unfold doE; rw [e1]; rfl
    rw [e2]
    exact (mdo_refused 7 t a b v n mm P ln cp full 15 (by decide) (fun W => kref7_r1 t a b v n mm P ln cp W _ g0 b1) h).mono fun e w' h9 => ⟨h9.1, dpB (by omega) h9.2⟩
  have g1 : 0 ≤ b ∧ b < (rs.length : Int) := by omega
  clear b1
  have e1 : refE rs.length 7 a b v n ln = 0 := by unfold refE uA uB; rw [if_neg (by omega), if_neg (by omega), if_neg (by omega)]
  have e2 : doE C rs.length 7 t a b v n mm ln full = 7 := by unfold doE; rw [if_pos e1]; simp [kE]
  rw [e2]
  exact (mdo_err 7 t a b v n mm P ln cp full 7 (by decide) (fun W => kref7_ok t a b v n mm P ln cp W _ g0 g1) (fun W => kquiet7 t a b v n mm P ln cp W) (fun W => kcomes7 t a b v n mm P ln cp W) (fun W hW => mcome7 t a b v n mm P ln cp full hW) h).mono fun e w' h9 => ⟨h9.1, dpB (by omega) h9.2⟩
theorem mdoK8 (t a b v n mm : Int) (P : Option Addr) (ln cp : Nat) (full : Bool) (hmd9 : md < 1000) (hmax : mm ≤ 9223372036854775807) (h : MO m mb r C md [] rs W) : Calls Try.prog 10 #[.pointer (some ⟨m, 0, none⟩), opv 8 t a b v n mm P ln cp, .bool full] W fun e w' => e = .returned (.agg #[rE (doE C rs.length 8 t a b v n mm ln full), .int .i64 0, .slice none 0 0]) ∧ DP m mb r C md rs 8 a n mm (doE C rs.length 8 t a b v n mm ln full) W w' := by
  by_cases b0 : a < 0 ∨ (rs.length : Int) ≤ a
  · have e1 : refE rs.length 8 a b v n ln = 15 := by unfold refE uA uB; rw [if_neg (by omega), if_pos (by omega)]
    have e2 : doE C rs.length 8 t a b v n mm ln full = 15 := by unfold doE; rw [e1]; rfl
    rw [e2]
    exact (mdo_refused 8 t a b v n mm P ln cp full 15 (by decide) (fun W => kref8_r0 t a b v n mm P ln cp W _ b0) h).mono fun e w' h9 => ⟨h9.1, dpB (by omega) h9.2⟩
  have g0 : 0 ≤ a ∧ a < (rs.length : Int) := by omega
  clear b0
  by_cases b1 : b < 0 ∨ (rs.length : Int) ≤ b
  · have e1 : refE rs.length 8 a b v n ln = 15 := by unfold refE uA uB; rw [if_neg (by omega), if_pos (by omega)]
    have e2 : doE C rs.length 8 t a b v n mm ln full = 15 := by unfold doE; rw [e1]; rfl
    rw [e2]
    exact (mdo_refused 8 t a b v n mm P ln cp full 15 (by decide) (fun W => kref8_r1 t a b v n mm P ln cp W _ g0 b1) h).mono fun e w' h9 => ⟨h9.1, dpB (by omega) h9.2⟩
  have g1 : 0 ≤ b ∧ b < (rs.length : Int) := by omega
  clear b1
  have e1 : refE rs.length 8 a b v n ln = 0 := by unfold refE uA uB; rw [if_neg (by omega), if_neg (by omega), if_neg (by omega)]
  have e2 : doE C rs.length 8 t a b v n mm ln full = 7 := by unfold doE; rw [if_pos e1]; simp [kE]
  rw [e2]
  exact (mdo_err 8 t a b v n mm P ln cp full 7 (by decide) (fun W => kref8_ok t a b v n mm P ln cp W _ g0 g1) (fun W => kquiet8 t a b v n mm P ln cp W) (fun W => kcomes8 t a b v n mm P ln cp W) (fun W hW => mcome8 t a b v n mm P ln cp full hW) h).mono fun e w' h9 => ⟨h9.1, dpB (by omega) h9.2⟩
theorem mdoK9 (t a b v n mm : Int) (P : Option Addr) (ln cp : Nat) (full : Bool) (hmd9 : md < 1000) (hmax : mm ≤ 9223372036854775807) (h : MO m mb r C md [] rs W) : Calls Try.prog 10 #[.pointer (some ⟨m, 0, none⟩), opv 9 t a b v n mm P ln cp, .bool full] W fun e w' => e = .returned (.agg #[rE (doE C rs.length 9 t a b v n mm ln full), .int .i64 0, .slice none 0 0]) ∧ DP m mb r C md rs 9 a n mm (doE C rs.length 9 t a b v n mm ln full) W w' := by
  by_cases b0 : a < 0 ∨ (rs.length : Int) ≤ a
  · have e1 : refE rs.length 9 a b v n ln = 15 := by unfold refE uA uB; rw [if_neg (by omega), if_pos (by omega)]
    have e2 : doE C rs.length 9 t a b v n mm ln full = 15 := by unfold doE; rw [e1]; rfl
    rw [e2]
    exact (mdo_refused 9 t a b v n mm P ln cp full 15 (by decide) (fun W => kref9_r0 t a b v n mm P ln cp W _ b0) h).mono fun e w' h9 => ⟨h9.1, dpB (by omega) h9.2⟩
  have g0 : 0 ≤ a ∧ a < (rs.length : Int) := by omega
  clear b0
  by_cases b1 : b < 0 ∨ (rs.length : Int) ≤ b
  · have e1 : refE rs.length 9 a b v n ln = 15 := by unfold refE uA uB; rw [if_neg (by omega), if_pos (by omega)]
    have e2 : doE C rs.length 9 t a b v n mm ln full = 15 := by unfold doE; rw [e1]; rfl
    rw [e2]
    exact (mdo_refused 9 t a b v n mm P ln cp full 15 (by decide) (fun W => kref9_r1 t a b v n mm P ln cp W _ g0 b1) h).mono fun e w' h9 => ⟨h9.1, dpB (by omega) h9.2⟩
  have g1 : 0 ≤ b ∧ b < (rs.length : Int) := by omega
  clear b1
  have e1 : refE rs.length 9 a b v n ln = 0 := by unfold refE uA uB; rw [if_neg (by omega), if_neg (by omega), if_neg (by omega)]
  have e2 : doE C rs.length 9 t a b v n mm ln full = 7 := by unfold doE; rw [if_pos e1]; simp [kE]
  rw [e2]
  exact (mdo_err 9 t a b v n mm P ln cp full 7 (by decide) (fun W => kref9_ok t a b v n mm P ln cp W _ g0 g1) (fun W => kquiet9 t a b v n mm P ln cp W) (fun W => kcomes9 t a b v n mm P ln cp W) (fun W hW => mcome9 t a b v n mm P ln cp full hW) h).mono fun e w' h9 => ⟨h9.1, dpB (by omega) h9.2⟩
theorem mdoK10 (t a b v n mm : Int) (P : Option Addr) (ln cp : Nat) (full : Bool) (hmd9 : md < 1000) (hmax : mm ≤ 9223372036854775807) (h : MO m mb r C md [] rs W) : Calls Try.prog 10 #[.pointer (some ⟨m, 0, none⟩), opv 10 t a b v n mm P ln cp, .bool full] W fun e w' => e = .returned (.agg #[rE (doE C rs.length 10 t a b v n mm ln full), .int .i64 0, .slice none 0 0]) ∧ DP m mb r C md rs 10 a n mm (doE C rs.length 10 t a b v n mm ln full) W w' := by
  by_cases b0 : a < 0 ∨ (rs.length : Int) ≤ a
  · have e1 : refE rs.length 10 a b v n ln = 15 := by unfold refE uA uB; rw [if_neg (by omega), if_pos (by omega)]
    have e2 : doE C rs.length 10 t a b v n mm ln full = 15 := by unfold doE; rw [e1]; rfl
    rw [e2]
    exact (mdo_refused 10 t a b v n mm P ln cp full 15 (by decide) (fun W => kref10_r0 t a b v n mm P ln cp W _ b0) h).mono fun e w' h9 => ⟨h9.1, dpB (by omega) h9.2⟩
  have g0 : 0 ≤ a ∧ a < (rs.length : Int) := by omega
  clear b0
  by_cases b1 : b < 0 ∨ (rs.length : Int) ≤ b
  · have e1 : refE rs.length 10 a b v n ln = 15 := by unfold refE uA uB; rw [if_neg (by omega), if_pos (by omega)]
    have e2 : doE C rs.length 10 t a b v n mm ln full = 15 := by unfold doE; rw [e1]; rfl
    rw [e2]
    exact (mdo_refused 10 t a b v n mm P ln cp full 15 (by decide) (fun W => kref10_r1 t a b v n mm P ln cp W _ g0 b1) h).mono fun e w' h9 => ⟨h9.1, dpB (by omega) h9.2⟩
  have g1 : 0 ≤ b ∧ b < (rs.length : Int) := by omega
  clear b1
  have e1 : refE rs.length 10 a b v n ln = 0 := by unfold refE uA uB; rw [if_neg (by omega), if_neg (by omega), if_neg (by omega)]
  have e2 : doE C rs.length 10 t a b v n mm ln full = 0 := by unfold doE; rw [if_pos e1]; simp [kE]
  rw [e2]
  exact (mdo_ok0 10 t a b v n mm P ln cp full a.toNat hmd9 (by omega) (by omega) (fun W => kref10_ok t a b v n mm P ln cp W _ g0 g1) (fun W => kquiet10 t a b v n mm P ln cp W) (fun W => kcomes10 t a b v n mm P ln cp W) (fun W hW => mcome10 t a b v n mm P ln cp full hW) h).mono fun e w' h9 => ⟨h9.1, dp0 rfl (by omega) h9.2⟩
theorem mdoK11 (t a b v n mm : Int) (P : Option Addr) (ln cp : Nat) (full : Bool) (hmd9 : md < 1000) (hmax : mm ≤ 9223372036854775807) (h : MO m mb r C md [] rs W) : Calls Try.prog 10 #[.pointer (some ⟨m, 0, none⟩), opv 11 t a b v n mm P ln cp, .bool full] W fun e w' => e = .returned (.agg #[rE (doE C rs.length 11 t a b v n mm ln full), .int .i64 0, .slice none 0 0]) ∧ DP m mb r C md rs 11 a n mm (doE C rs.length 11 t a b v n mm ln full) W w' := by
  by_cases b0 : b < 0 ∨ (rs.length : Int) ≤ b
  · have e1 : refE rs.length 11 a b v n ln = 15 := by unfold refE uA uB; rw [if_neg (by omega), if_pos (by omega)]
    have e2 : doE C rs.length 11 t a b v n mm ln full = 15 := by unfold doE; rw [e1]; rfl
    rw [e2]
    exact (mdo_refused 11 t a b v n mm P ln cp full 15 (by decide) (fun W => kref11_r0 t a b v n mm P ln cp W _ b0) h).mono fun e w' h9 => ⟨h9.1, dpB (by omega) h9.2⟩
  have g0 : 0 ≤ b ∧ b < (rs.length : Int) := by omega
  clear b0
  by_cases hbig : n > 4096
  · have e1 : refE rs.length 11 a b v n ln = 4 := by unfold refE uA uB; rw [if_neg (by omega), if_neg (by omega), if_pos (by omega)]
    have e2 : doE C rs.length 11 t a b v n mm ln full = 4 := by unfold doE; rw [e1]; rfl
    rw [e2]
    exact (mdo_refused 11 t a b v n mm P ln cp full 4 (by decide) (fun W => kref11_big t a b v n mm P ln cp W _ g0 hbig) h).mono fun e w' h9 => ⟨h9.1, dpB (by omega) h9.2⟩
  have e1 : refE rs.length 11 a b v n ln = 0 := by unfold refE uA uB; rw [if_neg (by omega), if_neg (by omega), if_neg (by omega)]
  have e2 : doE C rs.length 11 t a b v n mm ln full = 7 := by unfold doE; rw [if_pos e1]; simp [kE]
  rw [e2]
  exact (mdo_tell 11 t a b v n mm P ln cp full 7 (fun W => kref11_ok t a b v n mm P ln cp W _ g0 hbig) (fun W => kquiet11 t a b v n mm P ln cp W) (fun W => kcomes11 t a b v n mm P ln cp W) (fun W hW => mtell11 t a b v n mm P ln cp hW) h).mono fun e w' h9 => ⟨h9.1, dpB (by omega) h9.2⟩
theorem mdoK12 (t a b v n mm : Int) (P : Option Addr) (ln cp : Nat) (full : Bool) (hmd9 : md < 1000) (hmax : mm ≤ 9223372036854775807) (h : MO m mb r C md [] rs W) : Calls Try.prog 10 #[.pointer (some ⟨m, 0, none⟩), opv 12 t a b v n mm P ln cp, .bool full] W fun e w' => e = .returned (.agg #[rE (doE C rs.length 12 t a b v n mm ln full), .int .i64 0, .slice none 0 0]) ∧ DP m mb r C md rs 12 a n mm (doE C rs.length 12 t a b v n mm ln full) W w' := by
  by_cases b0 : b < 0 ∨ (rs.length : Int) ≤ b
  · have e1 : refE rs.length 12 a b v n ln = 15 := by unfold refE uA uB; rw [if_neg (by omega), if_pos (by omega)]
    have e2 : doE C rs.length 12 t a b v n mm ln full = 15 := by unfold doE; rw [e1]; rfl
    rw [e2]
    exact (mdo_refused 12 t a b v n mm P ln cp full 15 (by decide) (fun W => kref12_r0 t a b v n mm P ln cp W _ b0) h).mono fun e w' h9 => ⟨h9.1, dpB (by omega) h9.2⟩
  have g0 : 0 ≤ b ∧ b < (rs.length : Int) := by omega
  clear b0
  by_cases hbig : (ln : Int) > 4096
  · have e1 : refE rs.length 12 a b v n ln = 4 := by unfold refE uA uB; rw [if_neg (by omega), if_neg (by omega), if_pos (by omega)]
    have e2 : doE C rs.length 12 t a b v n mm ln full = 4 := by unfold doE; rw [e1]; rfl
    rw [e2]
    exact (mdo_refused 12 t a b v n mm P ln cp full 4 (by decide) (fun W => kref12_big t a b v n mm P ln cp W _ g0 hbig) h).mono fun e w' h9 => ⟨h9.1, dpB (by omega) h9.2⟩
  have e1 : refE rs.length 12 a b v n ln = 0 := by unfold refE uA uB; rw [if_neg (by omega), if_neg (by omega), if_neg (by omega)]
  have e2 : doE C rs.length 12 t a b v n mm ln full = 7 := by unfold doE; rw [if_pos e1]; simp [kE]
  rw [e2]
  exact (mdo_tell 12 t a b v n mm P ln cp full 7 (fun W => kref12_ok t a b v n mm P ln cp W _ g0 hbig) (fun W => kquiet12 t a b v n mm P ln cp W) (fun W => kcomes12 t a b v n mm P ln cp W) (fun W hW => mtell12 t a b v n mm P ln cp hW) h).mono fun e w' h9 => ⟨h9.1, dpB (by omega) h9.2⟩
theorem mdoK13 (t a b v n mm : Int) (P : Option Addr) (ln cp : Nat) (full : Bool) (hmd9 : md < 1000) (hmax : mm ≤ 9223372036854775807) (h : MO m mb r C md [] rs W) : Calls Try.prog 10 #[.pointer (some ⟨m, 0, none⟩), opv 13 t a b v n mm P ln cp, .bool full] W fun e w' => e = .returned (.agg #[rE (doE C rs.length 13 t a b v n mm ln full), .int .i64 0, .slice none 0 0]) ∧ DP m mb r C md rs 13 a n mm (doE C rs.length 13 t a b v n mm ln full) W w' := by
  by_cases b0 : a < 0 ∨ (rs.length : Int) ≤ a
  · have e1 : refE rs.length 13 a b v n ln = 15 := by unfold refE uA uB; rw [if_neg (by omega), if_pos (by omega)]
    have e2 : doE C rs.length 13 t a b v n mm ln full = 15 := by unfold doE; rw [e1]; rfl
    rw [e2]
    exact (mdo_refused 13 t a b v n mm P ln cp full 15 (by decide) (fun W => kref13_r0 t a b v n mm P ln cp W _ b0) h).mono fun e w' h9 => ⟨h9.1, dpB (by omega) h9.2⟩
  have g0 : 0 ≤ a ∧ a < (rs.length : Int) := by omega
  clear b0
  by_cases b1 : b < 0 ∨ (rs.length : Int) ≤ b
  · have e1 : refE rs.length 13 a b v n ln = 15 := by unfold refE uA uB; rw [if_neg (by omega), if_pos (by omega)]
    have e2 : doE C rs.length 13 t a b v n mm ln full = 15 := by unfold doE; rw [e1]; rfl
    rw [e2]
    exact (mdo_refused 13 t a b v n mm P ln cp full 15 (by decide) (fun W => kref13_r1 t a b v n mm P ln cp W _ g0 b1) h).mono fun e w' h9 => ⟨h9.1, dpB (by omega) h9.2⟩
  have g1 : 0 ≤ b ∧ b < (rs.length : Int) := by omega
  clear b1
  have e1 : refE rs.length 13 a b v n ln = 0 := by unfold refE uA uB; rw [if_neg (by omega), if_neg (by omega), if_neg (by omega)]
  have e2 : doE C rs.length 13 t a b v n mm ln full = 7 := by unfold doE; rw [if_pos e1]; simp [kE]
  rw [e2]
  exact (mdo_err 13 t a b v n mm P ln cp full 7 (by decide) (fun W => kref13_ok t a b v n mm P ln cp W _ g0 g1) (fun W => kquiet13 t a b v n mm P ln cp W) (fun W => kcomes13 t a b v n mm P ln cp W) (fun W hW => mcome13 t a b v n mm P ln cp full hW) h).mono fun e w' h9 => ⟨h9.1, dpB (by omega) h9.2⟩
theorem mdoK14 (t a b v n mm : Int) (P : Option Addr) (ln cp : Nat) (full : Bool) (hmd9 : md < 1000) (hmax : mm ≤ 9223372036854775807) (h : MO m mb r C md [] rs W) : Calls Try.prog 10 #[.pointer (some ⟨m, 0, none⟩), opv 14 t a b v n mm P ln cp, .bool full] W fun e w' => e = .returned (.agg #[rE (doE C rs.length 14 t a b v n mm ln full), .int .i64 0, .slice none 0 0]) ∧ DP m mb r C md rs 14 a n mm (doE C rs.length 14 t a b v n mm ln full) W w' := by
  by_cases b0 : b < 0 ∨ (rs.length : Int) ≤ b
  · have e1 : refE rs.length 14 a b v n ln = 15 := by unfold refE uA uB; rw [if_neg (by omega), if_pos (by omega)]
    have e2 : doE C rs.length 14 t a b v n mm ln full = 15 := by unfold doE; rw [e1]; rfl
    rw [e2]
    exact (mdo_refused 14 t a b v n mm P ln cp full 15 (by decide) (fun W => kref14_r0 t a b v n mm P ln cp W _ b0) h).mono fun e w' h9 => ⟨h9.1, dpB (by omega) h9.2⟩
  have g0 : 0 ≤ b ∧ b < (rs.length : Int) := by omega
  clear b0
  by_cases b1 : v < 0 ∨ (rs.length : Int) ≤ v
  · have e1 : refE rs.length 14 a b v n ln = 15 := by unfold refE uA uB; rw [if_neg (by omega), if_pos (by omega)]
    have e2 : doE C rs.length 14 t a b v n mm ln full = 15 := by unfold doE; rw [e1]; rfl
    rw [e2]
    exact (mdo_refused 14 t a b v n mm P ln cp full 15 (by decide) (fun W => kref14_r1 t a b v n mm P ln cp W _ g0 b1) h).mono fun e w' h9 => ⟨h9.1, dpB (by omega) h9.2⟩
  have g1 : 0 ≤ v ∧ v < (rs.length : Int) := by omega
  clear b1
  have e1 : refE rs.length 14 a b v n ln = 0 := by unfold refE uA uB; rw [if_neg (by omega), if_neg (by omega), if_neg (by omega)]
  have e2 : doE C rs.length 14 t a b v n mm ln full = 7 := by unfold doE; rw [if_pos e1]; simp [kE]
  rw [e2]
  exact (mdo_tell 14 t a b v n mm P ln cp full 7 (fun W => kref14_ok t a b v n mm P ln cp W _ g0 g1) (fun W => kquiet14 t a b v n mm P ln cp W) (fun W => kcomes14 t a b v n mm P ln cp W) (fun W hW => mtell14 t a b v n mm P ln cp hW) h).mono fun e w' h9 => ⟨h9.1, dpB (by omega) h9.2⟩
theorem mdoK15 (t a b v n mm : Int) (P : Option Addr) (ln cp : Nat) (full : Bool) (hmd9 : md < 1000) (hmax : mm ≤ 9223372036854775807) (h : MO m mb r C md [] rs W) : Calls Try.prog 10 #[.pointer (some ⟨m, 0, none⟩), opv 15 t a b v n mm P ln cp, .bool full] W fun e w' => e = .returned (.agg #[rE (doE C rs.length 15 t a b v n mm ln full), .int .i64 0, .slice none 0 0]) ∧ DP m mb r C md rs 15 a n mm (doE C rs.length 15 t a b v n mm ln full) W w' := by
  have e1 : refE rs.length 15 a b v n ln = 0 := by unfold refE uA uB; rw [if_neg (by omega), if_neg (by omega), if_neg (by omega)]
  have e2 : doE C rs.length 15 t a b v n mm ln full = 0 := by unfold doE; rw [if_pos e1]; simp [kE]
  rw [e2]
  exact (mdo_quiet 15 t a b v n mm P ln cp full (fun W => kref15_ok t a b v n mm P ln cp W _ ) (fun W => kquiet15 t a b v n mm P ln cp W) h).mono fun e w' h9 => ⟨h9.1, dpB (by omega) h9.2⟩
theorem mdoK16 (t a b v n mm : Int) (P : Option Addr) (ln cp : Nat) (full : Bool) (hmd9 : md < 1000) (hmax : mm ≤ 9223372036854775807) (h : MO m mb r C md [] rs W) : Calls Try.prog 10 #[.pointer (some ⟨m, 0, none⟩), opv 16 t a b v n mm P ln cp, .bool full] W fun e w' => e = .returned (.agg #[rE (doE C rs.length 16 t a b v n mm ln full), .int .i64 0, .slice none 0 0]) ∧ DP m mb r C md rs 16 a n mm (doE C rs.length 16 t a b v n mm ln full) W w' := by
  have e1 : refE rs.length 16 a b v n ln = 0 := by unfold refE uA uB; rw [if_neg (by omega), if_neg (by omega), if_neg (by omega)]
  have e2 : doE C rs.length 16 t a b v n mm ln full = 0 := by unfold doE; rw [if_pos e1]; simp [kE]
  rw [e2]
  exact (mdo_quiet 16 t a b v n mm P ln cp full (fun W => kref16_ok t a b v n mm P ln cp W _ ) (fun W => kquiet16 t a b v n mm P ln cp W) h).mono fun e w' h9 => ⟨h9.1, dpB (by omega) h9.2⟩
theorem mdoK17 (t a b v n mm : Int) (P : Option Addr) (ln cp : Nat) (full : Bool) (hmd9 : md < 1000) (hmax : mm ≤ 9223372036854775807) (h : MO m mb r C md [] rs W) : Calls Try.prog 10 #[.pointer (some ⟨m, 0, none⟩), opv 17 t a b v n mm P ln cp, .bool full] W fun e w' => e = .returned (.agg #[rE (doE C rs.length 17 t a b v n mm ln full), .int .i64 0, .slice none 0 0]) ∧ DP m mb r C md rs 17 a n mm (doE C rs.length 17 t a b v n mm ln full) W w' := by
  have e1 : refE rs.length 17 a b v n ln = 0 := by unfold refE uA uB; rw [if_neg (by omega), if_neg (by omega), if_neg (by omega)]
  have e2 : doE C rs.length 17 t a b v n mm ln full = 0 := by unfold doE; rw [if_pos e1]; simp [kE]
  rw [e2]
  exact (mdo_quiet 17 t a b v n mm P ln cp full (fun W => kref17_ok t a b v n mm P ln cp W _ ) (fun W => kquiet17 t a b v n mm P ln cp W) h).mono fun e w' h9 => ⟨h9.1, dpB (by omega) h9.2⟩
theorem mdoK18 (t a b v n mm : Int) (P : Option Addr) (ln cp : Nat) (full : Bool) (hmd9 : md < 1000) (hmax : mm ≤ 9223372036854775807) (h : MO m mb r C md [] rs W) : Calls Try.prog 10 #[.pointer (some ⟨m, 0, none⟩), opv 18 t a b v n mm P ln cp, .bool full] W fun e w' => e = .returned (.agg #[rE (doE C rs.length 18 t a b v n mm ln full), .int .i64 0, .slice none 0 0]) ∧ DP m mb r C md rs 18 a n mm (doE C rs.length 18 t a b v n mm ln full) W w' := by
  by_cases b0 : a < 0 ∨ (rs.length : Int) ≤ a
  · have e1 : refE rs.length 18 a b v n ln = 15 := by unfold refE uA uB; rw [if_neg (by omega), if_pos (by omega)]
    have e2 : doE C rs.length 18 t a b v n mm ln full = 15 := by unfold doE; rw [e1]; rfl
    rw [e2]
    exact (mdo_refused 18 t a b v n mm P ln cp full 15 (by decide) (fun W => kref18_r0 t a b v n mm P ln cp W _ b0) h).mono fun e w' h9 => ⟨h9.1, dpB (by omega) h9.2⟩
  have g0 : 0 ≤ a ∧ a < (rs.length : Int) := by omega
  clear b0
  have e1 : refE rs.length 18 a b v n ln = 0 := by unfold refE uA uB; rw [if_neg (by omega), if_neg (by omega), if_neg (by omega)]
  have e2 : doE C rs.length 18 t a b v n mm ln full = 0 := by unfold doE; rw [if_pos e1]; simp [kE]
  rw [e2]
  exact (mdo_ok0 18 t a b v n mm P ln cp full a.toNat hmd9 (by omega) (by omega) (fun W => kref18_ok t a b v n mm P ln cp W _ g0) (fun W => kquiet18 t a b v n mm P ln cp W) (fun W => kcomes18 t a b v n mm P ln cp W) (fun W hW => mcome18 t a b v n mm P ln cp full hW) h).mono fun e w' h9 => ⟨h9.1, dp0 rfl (by omega) h9.2⟩
theorem mdo_any (k : Int) (t a b v n mm : Int) (P : Option Addr) (ln cp : Nat) (full : Bool) (hmd9 : md < 1000) (hmax : mm ≤ 9223372036854775807) (h : MO m mb r C md [] rs W) : Calls Try.prog 10 #[.pointer (some ⟨m, 0, none⟩), opv k t a b v n mm P ln cp, .bool full] W fun e w' => e = .returned (.agg #[rE (doE C rs.length k t a b v n mm ln full), .int .i64 0, .slice none 0 0]) ∧ DP m mb r C md rs k a n mm (doE C rs.length k t a b v n mm ln full) W w' := by
  by_cases hk : k < 1 ∨ 18 < k
  · have e1 : refE rs.length k a b v n ln = 1 := by unfold refE; rw [if_pos hk]
    have e2 : doE C rs.length k t a b v n mm ln full = 1 := by unfold doE; rw [e1]; rfl
    rw [e2]
    exact (mdo_refused k t a b v n mm P ln cp full 1 (by decide) (fun W => kref_no k hk t a b v n mm P ln cp W _) h).mono fun e w' h9 => ⟨h9.1, dpB (by omega) h9.2⟩
  · rcases (show k = 1 ∨ k = 2 ∨ k = 3 ∨ k = 4 ∨ k = 5 ∨ k = 6 ∨ k = 7 ∨ k = 8 ∨ k = 9 ∨ k = 10 ∨ k = 11 ∨ k = 12 ∨ k = 13 ∨ k = 14 ∨ k = 15 ∨ k = 16 ∨ k = 17 ∨ k = 18 by omega) with rfl | rfl | rfl | rfl | rfl | rfl | rfl | rfl | rfl | rfl | rfl | rfl | rfl | rfl | rfl | rfl | rfl | rfl
    · exact mdoK1 t a b v n mm P ln cp full hmd9 hmax h
    · exact mdoK2 t a b v n mm P ln cp full hmd9 hmax h
    · exact mdoK3 t a b v n mm P ln cp full hmd9 hmax h
    · exact mdoK4 t a b v n mm P ln cp full hmd9 hmax h
    · exact mdoK5 t a b v n mm P ln cp full hmd9 hmax h
    · exact mdoK6 t a b v n mm P ln cp full hmd9 hmax h
    · exact mdoK7 t a b v n mm P ln cp full hmd9 hmax h
    · exact mdoK8 t a b v n mm P ln cp full hmd9 hmax h
    · exact mdoK9 t a b v n mm P ln cp full hmd9 hmax h
    · exact mdoK10 t a b v n mm P ln cp full hmd9 hmax h
    · exact mdoK11 t a b v n mm P ln cp full hmd9 hmax h
    · exact mdoK12 t a b v n mm P ln cp full hmd9 hmax h
    · exact mdoK13 t a b v n mm P ln cp full hmd9 hmax h
    · exact mdoK14 t a b v n mm P ln cp full hmd9 hmax h
    · exact mdoK15 t a b v n mm P ln cp full hmd9 hmax h
    · exact mdoK16 t a b v n mm P ln cp full hmd9 hmax h
    · exact mdoK17 t a b v n mm P ln cp full hmd9 hmax h
    · exact mdoK18 t a b v n mm P ln cp full hmd9 hmax h
end
end Go.Proofs.Ytanmmhbnjmglhaa
