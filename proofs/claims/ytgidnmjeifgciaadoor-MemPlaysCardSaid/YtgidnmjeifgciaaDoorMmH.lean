/- Memory: what is kept. -/
import Derived.Test.YtgidnmjeifgciaaDoorMmG
import Derived.Deep.RegionHeld3
namespace Go.Proofs.YtgidnmjeifgciaaDoor
set_option maxRecDepth 100000
open Go.RowKit Go.ChangeMaps Go.MapKept
set_option linter.unusedVariables false
set_option linter.unusedSimpArgs false

section
variable {B : Nat} {col : Nat → Nat} {M : Nat} {W : World} {σ : MS}
def onK (kp : Nat → Bool) (x : Nat) : Nat → Bool := fun y => kp y || decide (x = y)
def offK (kp : Nat → Bool) (x : Nat) : Nat → Bool := fun y => kp y && !decide (x = y)
theorem cntF_le (o : Nat → Bool) (n : Nat) : cntF o n ≤ n := by
  induction n with
  | zero => exact Nat.le_refl _
  | succ n ih => rw [cntF]; split <;> omega
theorem cntF_lt {o : Nat → Bool} {x n : Nat} (hx : x < n) (h : o x = false) : cntF o n < n := by
  induction n with
  | zero => omega
  | succ n ih =>
    rw [cntF]
    by_cases e : x = n
    · rw [← e, h]
      have := cntF_le o x
      simp
      omega
    · have := ih (by omega)
      split <;> omega
theorem cntF_pos {o : Nat → Bool} {x n : Nat} (hx : x < n) (h : o x = true) : 1 ≤ cntF o n := by
  induction n with
  | zero => omega
  | succ n ih =>
    rw [cntF]
    by_cases e : x = n
    · rw [← e, h]
      simp
    · have := ih (by omega)
      omega
def SlStep (col : Nat → Nat) (S : Nat) (W : World) (kp' : Nat → Bool) (w' : World) : Prop :=
  SlC col S w' kp' ∧ (∀ i, i < W.heap.size → col i ≠ 5 → w'.heap[i]? = W.heap[i]?) ∧ w'.heap.size = W.heap.size ∧ ∃ lo, (∀ i, lo ≤ i → i ≤ S → col i = 5) ∧ lo ≤ S ∧ Below lo W w'
theorem only_step {lo hi S : Nat} {w' : World} (h4 : ∀ i, lo ≤ i → i ≤ S → col i = 5) (hlS : lo ≤ S) (hhS : hi ≤ S) (ho : Only lo hi W w') : (∀ i, i < W.heap.size → col i ≠ 5 → w'.heap[i]? = W.heap[i]?) ∧ w'.heap.size = W.heap.size ∧ ∃ lo, (∀ i, lo ≤ i → i ≤ S → col i = 5) ∧ lo ≤ S ∧ Below lo W w' := by
  refine ⟨fun i hi hc => ?_, ho.2.1, lo, h4, hlS, ho.1⟩
  by_cases hi2 : lo ≤ i
  · by_cases hip : i ≤ S
    · exact absurd (h4 i hi2 hip) hc
    · exact ho.2.2 i (by omega)
  · exact ho.1.block i (by omega)
theorem slkeepF {S : Nat} {kp : Nat → Bool} (x : Nat) (h : SlC col S W kp) (hx : x < 16384) (h0 : kp x = false) :
    Calls Tryd.prog 65 #[.pointer (some ⟨S, 0, none⟩), .int .i64 x] W fun e w' => e = .returned (.bool true) ∧ SlStep col S W (onK kp x) w' := by
  obtain ⟨lo, hi, g, ws, h1, h2, h3, h4⟩ := h
  have hlS : lo ≤ S := by have := h1.1.1; have := h1.2.1.1; omega
  refine (slkeep x h1 hx (by have := cntF_lt hx h0; omega)).mono ?_
  rintro e w' ⟨c', ws', he, hs, ho, -, hc, hl, hb⟩
  have hbits : ∀ y, bitB ws' y = onK kp x y := fun y => by rw [hb, h3]; rfl
  have hcnt := cntB_put (n := 16384) hx hb (by rw [h3]; exact h0)
  rw [cntB_F, cntB_F, show bitB ws' = onK kp x from funext hbits, show bitB ws = kp from funext h3] at hcnt
  have hc' := hc (by rw [h3]; exact h0)
  exact ⟨he, ⟨lo, hi, g, ws', by rw [hcnt]; rw [hc'] at hs; exact hs, by rw [hl]; exact h2, hbits, h4⟩, only_step h4 hlS h1.2.1.1 ho⟩
theorem slclearF {S : Nat} {kp : Nat → Bool} (x : Nat) (h : SlC col S W kp) (hx : x < 16384) (h0 : kp x = true) :
    Calls Tryd.prog 67 #[.pointer (some ⟨S, 0, none⟩), .int .i64 x] W fun e w' => e = .returned (.bool true) ∧ SlStep col S W (offK kp x) w' := by
  obtain ⟨lo, hi, g, ws, h1, h2, h3, h4⟩ := h
  have hlS : lo ≤ S := by have := h1.1.1; have := h1.2.1.1; omega
  refine (slclear x h1 hx (fun _ => by have := cntF_pos hx h0; omega)).mono ?_
  rintro e w' ⟨c', ws', he, hs, ho, hc, -, hl, hb⟩
  have hbits : ∀ y, bitB ws' y = offK kp x y := fun y => by rw [hb, h3]; rfl
  have hcnt := cntB_drop (n := 16384) hx hb (by rw [h3]; exact h0)
  rw [cntB_F, cntB_F, show bitB ws' = offK kp x from funext hbits, show bitB ws = kp from funext h3] at hcnt
  have hc' := hc (by rw [h3]; exact h0)
  rw [h3, h0] at he
  exact ⟨he, ⟨lo, hi, g, ws', by rw [show ((cntF (offK kp x) 16384 : Nat) : Int) = c' by omega]; exact hs, by rw [hl]; exact h2, hbits, h4⟩, only_step h4 hlS h1.2.1.1 ho⟩
theorem slclear_noF {S : Nat} {kp : Nat → Bool} (x : Int) (h : SlC col S W kp) (h0 : (decide (0 ≤ x ∧ x < 16384) && kp x.toNat) = false) :
    Calls Tryd.prog 67 #[.pointer (some ⟨S, 0, none⟩), .int .i64 x] W fun e w' => e = .returned (.bool false) ∧ W = w' := by
  obtain ⟨lo, hi, g, ws, ⟨h1, -, -, h5⟩, h2, h3, h4⟩ := h
  have H := Lib.hid h1
  have HX : Hid ((decide (0 ≤ x ∧ x < 16384) && bitB ws x.toNat) = false) := Lib.hid (by rw [h3]; exact h0)
  clear h1 h2 h3 h4 h0
  go_enter Tryd.func67, Tryd.ntmps67
  go_wp2_with fail
  refine (sdrop_no lo hi g _ 16384 _ x ws H.out HX.out).mono ?_
  rintro e w' ⟨rfl, rfl⟩
  go_wp2
  go_ret
  exact ⟨rfl, rfl⟩
theorem slhasF {S : Nat} {kp : Nat → Bool} (r : Bool) (x : Int) (h : SlC col S W kp) (h0 : (decide (0 ≤ x ∧ x < 16384) && kp x.toNat) = r) :
    Calls Tryd.prog 97 #[.pointer (some ⟨S, 0, none⟩), .int .i64 x] W fun e w' => e = .returned (.bool r) ∧ W = w' := by
  obtain ⟨lo, hi, g, ws, h1, h2, h3, h4⟩ := h
  exact slhas r x h1 (by rw [h3]; exact h0)

theorem mcaps (h : MEM B col M W σ) :
    Calls Tryd.prog 32 #[.pointer (some ⟨M, 0, none⟩)] W fun e w' => e = .returned (.int .i64 (cntF σ.kp 16384 : Nat)) ∧ W = w' := by
  obtain ⟨P, sg, t, S, kb, ⟨-, -, -, k3, -⟩, -, -, -, ⟨lo, hi, g, ws, h1, -⟩, -⟩ := h.ex
  have H1 := Lib.hid h1
  clear h h1
  go_enter Tryd.func32, Tryd.ntmps32
  go_wp2_with fail
  refine (slcount H1.out).mono ?_
  rintro e w' ⟨rfl, rfl⟩
  go_wp2
  go_ret
  exact ⟨rfl, rfl⟩
theorem mnext (x : Int) (h : MEM B col M W σ) :
    Calls Tryd.prog 33 #[.pointer (some ⟨M, 0, none⟩), .int .i64 x] W fun e w' => (∃ r, e = .returned (.int .i64 r) ∧ NextF σ.kp (max x 0).toNat r) ∧ W = w' := by
  have HT := Lib.hid h.tz
  obtain ⟨P, sg, t, S, kb, ⟨-, -, -, k3, -⟩, -, -, -, h1, -⟩ := h.ex
  have H1 := Lib.hid h1
  clear h h1
  go_enter Tryd.func33, Tryd.ntmps33
  go_wp2_with fail
  refine (slnextF x H1.out HT.out).mono ?_
  rintro e w' ⟨⟨r, rfl, hr⟩, rfl⟩
  have HR := Lib.hid hr
  clear hr
  go_wp2
  go_ret
  exact ⟨⟨r, rfl, HR.out⟩, rfl⟩
theorem mkept_no (x : Int) (h : MEM B col M W σ) (h0 : (decide (0 ≤ x ∧ x < 16384) && σ.kp x.toNat) = false) :
    Calls Tryd.prog 50 #[.pointer (some ⟨M, 0, none⟩), .int .i64 x] W fun e w' => e = .returned (.tuple #[.slice none 0 0, .bool false]) ∧ W = w' := by
  obtain ⟨P, sg, t, S, kb, ⟨-, -, -, k3, -⟩, -, -, -, h1, -⟩ := h.ex
  have H1 := Lib.hid h1
  have H0 := Lib.hid h0
  clear h h1 h0
  go_enter Tryd.func50, Tryd.ntmps50
  go_wp2_with fail
  refine (slhasF false x H1.out H0.out).mono ?_
  rintro e w' ⟨rfl, rfl⟩
  go_wp2
  go_ret2
  exact ⟨rfl, rfl⟩
def MKeptPost (W : World) (f : Nat → Nat) (e : Ending) (w' : World) : Prop :=
  ∃ D cap, e = .returned (.tuple #[.slice (some ⟨D, 0, none⟩) 16 cap, .bool true]) ∧ W.heap.size ≤ D ∧ 16 ≤ cap ∧ PGn D 16 w' f ∧ Below W.heap.size W w'
theorem mkept_yes (x : Nat) (h : MEM B col M W σ) (h0 : σ.kp x = true) :
    Calls Tryd.prog 50 #[.pointer (some ⟨M, 0, none⟩), .int .i64 (x : Int)] W (MKeptPost W (σ.kv x)) := by
  obtain ⟨P, sg, t, S, kb, ⟨-, -, -, k3, k4⟩, -, -, -, h1, ⟨kl, hkm, -, -, hall, hiff⟩⟩ := h.ex
  have hx : x < 16384 := by
    obtain ⟨lo, hi, g, ws, q1, q2, q3, q4⟩ := h1
    by_cases e : x < 16384
    · exact e
    · rw [kp_high q2 q3 x (by omega)] at h0; cases h0
  obtain ⟨⟨x', q, cap⟩, he, rfl⟩ := (hiff x).1 h0
  obtain ⟨-, m2, m3, m4⟩ := hall _ he
  have hlook : (Instr.lookup 107 (.map (some kb)) (.int .i64 (x' : Int)) false).run Tryd.prog W = .ok (.slice (some ⟨q, 0, none⟩) 16 cap) W := lookK W kb kl hkm (x', q, cap) he
  have H1 := Lib.hid h1
  have H0 : Hid ((decide (0 ≤ (x' : Int) ∧ (x' : Int) < 16384) && σ.kp (x' : Int).toNat) = true) := Lib.hid (by rw [Int.toNat_natCast, decide_eq_true (by have : x' < 16384 := hx; omega)]; exact h0)
  have HP : Hid (∀ i, i < 16 → W.cell? ⟨q, 0 + i, none⟩ = some (.int .u8 (σ.kv x' i : Int))) := Lib.hid (fun i hi => by rw [Nat.zero_add]; exact m4.2.1 i hi)
  clear h h1 h0 hall hiff hkm he m4
  go_enter Tryd.func50, Tryd.ntmps50
  go_wp2_with fail
  refine (slhasF true (x' : Int) H1.out H0.out).mono ?_
  rintro e w' ⟨rfl, rfl⟩
  go_wp2_with fail
  refine (bclone W q 0 16 cap (σ.kv x') HP.out (by decide) (by decide)).mono ?_
  rintro e w2 ⟨D, cap', rfl, hD, hc, -, hPG, hb⟩
  have HF := Lib.hid (And.intro hPG hb)
  clear hPG hb
  go_wp2
  go_ret2
  exact ⟨D, cap', rfl, hD, hc, HF.out.1, HF.out.2⟩
theorem keep_end {w2 w3 w4 w5 : World} {P sg t S kb x D cap : Nat} {d : Nat → Nat} {l : List (Nat × Nat × Nat)} (h : MEM B col M w2 σ) (hn : MCells M P sg t S kb w2 ∧ PgC col P w2 σ.pg σ.most σ.peak ∧ StC B col sg w2 σ.c ∧ TgC col t w2 σ.f ∧ SlC col S w2 σ.kp ∧ KpC col kb w2 σ.kp σ.kv)
    (hkb : kb < w2.heap.size ∧ col kb = 6) (hall : ∀ e ∈ l, col e.2.1 = 7 ∧ 16 ≤ e.2.2 ∧ e.2.2 ≤ 9223372036854775807 ∧ PGn e.2.1 16 w2 (σ.kv e.1)) (hiff : ∀ x, σ.kp x = true ↔ ∃ e ∈ l, e.1 = x)
    (h0 : σ.kp x = false) (hq : SlStep col S w2 (onK σ.kp x) w3) (b4 : Below w3.heap.size w3 w4) (hD : w3.heap.size ≤ D) (hP : PGn D 16 w4 d) (hcap : 16 ≤ cap ∧ cap ≤ 9223372036854775807)
    (hkm : KM kb w5 (l ++ [(x, D, cap)])) (hs5 : w5.heap.size = w4.heap.size) (hob : OB kb w4 w5) : MStep B col M w2 { σ with kp := onK σ.kp x, kv := fun y => if y = x then d else σ.kv y } w5 := by
  obtain ⟨q1, q2, q3, lo, b1, b2, b3⟩ := hq
  have hloB : B ≤ lo := (h.own lo (by rw [b1 lo (Nat.le_refl _) b2]; decide)).1
  have hkB : B ≤ kb := (h.own kb (by rw [hkb.2]; decide)).1
  have hz4 := b4.size
  have hB3 : B ≤ w3.heap.size := by have := h.size; omega
  have hBe : Below B w2 w5 := ((b3.mono hloB).trans (b4.mono hB3)).trans (hob.2.2 B hkB (by omega))
  have hst : ∀ i, i < w2.heap.size → col i ≠ 5 → col i ≠ 6 → w5.heap[i]? = w2.heap[i]? := fun i hi h5 h6 => ((hob.2.1 i (by omega) (fun e => h6 (by rw [e]; exact hkb.2))).trans (b4.block i (by omega))).trans (q2 i hi h5)
  have hcol : ∀ i, i < w2.heap.size → (fun i => if i = D then 7 else col i) i = col i := fun i hi => if_neg (by omega)
  have hDz := hP.1
  refine h.set_kp (col' := fun i => if i = D then 7 else col i) hn hBe hst hcol (fun i hi hc => ?_) ?_ ⟨l ++ [(x, D, cap)], hkm, by omega, (if_neg (by omega)).trans hkb.2, fun e he => ?_, fun y => ?_⟩
  · by_cases e : i = D
    · omega
    · rw [if_neg e] at hc
      have := (h.own i hc).2
      omega
  · refine q1.move (by omega) (fun i hi hc => ?_) (fun i hi => hcol i (by omega))
    exact (hob.2.1 i (by omega) (fun e => by rw [e, hkb.2] at hc; exact absurd hc (by decide))).trans (b4.block i hi)
  · rcases List.mem_append.1 he with he | he
    · obtain ⟨m1, m2, m3, m4⟩ := hall e he
      have hne : e.1 ≠ x := fun e2 => by
        have := (hiff x).2 ⟨e, he, e2⟩
        rw [h0] at this; cases this
      refine ⟨(hcol _ m4.1).trans m1, m2, m3, ?_⟩
      simp only [if_neg hne]
      exact m4.keep (by omega) (hst _ m4.1 (by rw [m1]; decide) (by rw [m1]; decide))
    · simp only [List.mem_singleton] at he
      subst he
      refine ⟨if_pos rfl, hcap.1, hcap.2, ?_⟩
      simp only [if_true]
      exact hP.keep (by omega) (hob.2.1 D hDz (by omega))
  · unfold onK
    rw [Bool.or_eq_true, hiff, decide_eq_true_eq]
    constructor
    · rintro (⟨e, he, rfl⟩ | rfl)
      · exact ⟨e, List.mem_append_left _ he, rfl⟩
      · exact ⟨_, List.mem_append_right _ (List.mem_singleton.2 rfl), rfl⟩
    · rintro ⟨e, he, rfl⟩
      rcases List.mem_append.1 he with he | he
      · exact .inl ⟨e, he, rfl⟩
      · simp only [List.mem_singleton] at he
        subst he
        exact .inr rfl
end
end Go.Proofs.YtgidnmjeifgciaaDoor
