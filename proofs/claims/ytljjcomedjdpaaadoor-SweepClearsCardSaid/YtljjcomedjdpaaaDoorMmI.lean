/- MmH, MmI in one text: a claim holds at most 60 files. -/
import Derived.Test.YtljjcomedjdpaaaDoorMmG
import Derived.Deep.RegionHeld3
namespace Go.Proofs.YtljjcomedjdpaaaDoor
set_option maxRecDepth 100000
open Go.RowKit Go.ChangeMaps Go.MapKept
set_option linter.unusedVariables false
set_option linter.unusedSimpArgs false

section
variable {B : Nat} {col : Nat → Nat} {M : Nat} {W : World} {σ : MS}
def onK (kp : Nat → Bool) (x : Nat) : Nat → Bool := fun y => kp y || decide (x = y)
def offK (kp : Nat → Bool) (x : Nat) : Nat → Bool := fun y => kp y && !decide (x = y)
theorem cntF_le (o : Nat → Bool) (n : Nat) : cntF o n ≤ n := by
  induction n with
  | zero => exact Nat.le_refl _
  | succ n ih => rw [cntF]; split <;> omega
theorem cntF_lt {o : Nat → Bool} {x n : Nat} (hx : x < n) (h : o x = false) : cntF o n < n := by
  induction n with
  | zero => omega
  | succ n ih =>
    rw [cntF]
    by_cases e : x = n
    · rw [← e, h]
      have := cntF_le o x
      simp
      omega
    · have := ih (by omega)
      split <;> omega
theorem cntF_pos {o : Nat → Bool} {x n : Nat} (hx : x < n) (h : o x = true) : 1 ≤ cntF o n := by
  induction n with
  | zero => omega
  | succ n ih =>
    rw [cntF]
    by_cases e : x = n
    · rw [← e, h]
      simp
    · have := ih (by omega)
      omega
def SlStep (col : Nat → Nat) (S : Nat) (W : World) (kp' : Nat → Bool) (w' : World) : Prop :=
  SlC col S w' kp' ∧ (∀ i, i < W.heap.size → col i ≠ 5 → w'.heap[i]? = W.heap[i]?) ∧ w'.heap.size = W.heap.size ∧ ∃ lo, (∀ i, lo ≤ i → i ≤ S → col i = 5) ∧ lo ≤ S ∧ Below lo W w'
theorem only_step {lo hi S : Nat} {w' : World} (h4 : ∀ i, lo ≤ i → i ≤ S → col i = 5) (hlS : lo ≤ S) (hhS : hi ≤ S) (ho : Only lo hi W w') : (∀ i, i < W.heap.size → col i ≠ 5 → w'.heap[i]? = W.heap[i]?) ∧ w'.heap.size = W.heap.size ∧ ∃ lo, (∀ i, lo ≤ i → i ≤ S → col i = 5) ∧ lo ≤ S ∧ Below lo W w' := by
  refine ⟨fun i hi hc => ?_, ho.2.1, lo, h4, hlS, ho.1⟩
  by_cases hi2 : lo ≤ i
  · by_cases hip : i ≤ S
    · exact absurd (h4 i hi2 hip) hc
    · exact ho.2.2 i (by omega)
  · exact ho.1.block i (by omega)
theorem slkeepF {S : Nat} {kp : Nat → Bool} (x : Nat) (h : SlC col S W kp) (hx : x < 16384) (h0 : kp x = false) :
    Calls Tryd.prog 50 #[.pointer (some ⟨S, 0, none⟩), .int .i64 x] W fun e w' => e = .returned (.bool true) ∧ SlStep col S W (onK kp x) w' := by
  obtain ⟨lo, hi, g, ws, h1, h2, h3, h4⟩ := h
  have hlS : lo ≤ S := by have := h1.1.1; have := h1.2.1.1; omega
  refine (slkeep x h1 hx (by have := cntF_lt hx h0; omega)).mono ?_
  rintro e w' ⟨c', ws', he, hs, ho, -, hc, hl, hb⟩
  have hbits : ∀ y, bitB ws' y = onK kp x y := fun y => by rw [hb, h3]; rfl
  have hcnt := cntB_put (n := 16384) hx hb (by rw [h3]; exact h0)
  rw [cntB_F, cntB_F, show bitB ws' = onK kp x from funext hbits, show bitB ws = kp from funext h3] at hcnt
  have hc' := hc (by rw [h3]; exact h0)
  exact ⟨he, ⟨lo, hi, g, ws', by rw [hcnt]; rw [hc'] at hs; exact hs, by rw [hl]; exact h2, hbits, h4⟩, only_step h4 hlS h1.2.1.1 ho⟩
theorem slclearF {S : Nat} {kp : Nat → Bool} (x : Nat) (h : SlC col S W kp) (hx : x < 16384) (h0 : kp x = true) :
    Calls Tryd.prog 78 #[.pointer (some ⟨S, 0, none⟩), .int .i64 x] W fun e w' => e = .returned (.bool true) ∧ SlStep col S W (offK kp x) w' := by
  obtain ⟨lo, hi, g, ws, h1, h2, h3, h4⟩ := h
  have hlS : lo ≤ S := by have := h1.1.1; have := h1.2.1.1; omega
  refine (slclear x h1 hx (fun _ => by have := cntF_pos hx h0; omega)).mono ?_
  rintro e w' ⟨c', ws', he, hs, ho, hc, -, hl, hb⟩
  have hbits : ∀ y, bitB ws' y = offK kp x y := fun y => by rw [hb, h3]; rfl
  have hcnt := cntB_drop (n := 16384) hx hb (by rw [h3]; exact h0)
  rw [cntB_F, cntB_F, show bitB ws' = offK kp x from funext hbits, show bitB ws = kp from funext h3] at hcnt
  have hc' := hc (by rw [h3]; exact h0)
  rw [h3, h0] at he
  exact ⟨he, ⟨lo, hi, g, ws', by rw [show ((cntF (offK kp x) 16384 : Nat) : Int) = c' by omega]; exact hs, by rw [hl]; exact h2, hbits, h4⟩, only_step h4 hlS h1.2.1.1 ho⟩
theorem slclear_noF {S : Nat} {kp : Nat → Bool} (x : Int) (h : SlC col S W kp) (h0 : (decide (0 ≤ x ∧ x < 16384) && kp x.toNat) = false) :
    Calls Tryd.prog 78 #[.pointer (some ⟨S, 0, none⟩), .int .i64 x] W fun e w' => e = .returned (.bool false) ∧ W = w' := by
  obtain ⟨lo, hi, g, ws, ⟨h1, -, -, h5⟩, h2, h3, h4⟩ := h
  have H := Lib.hid h1
  have HX : Hid ((decide (0 ≤ x ∧ x < 16384) && bitB ws x.toNat) = false) := Lib.hid (by rw [h3]; exact h0)
  clear h1 h2 h3 h4 h0
  go_enter Tryd.func78, Tryd.ntmps78
  go_wp2_with fail
  refine (sdrop_no lo hi g _ 16384 _ x ws H.out HX.out).mono ?_
  rintro e w' ⟨rfl, rfl⟩
  go_wp2
  go_ret
  exact ⟨rfl, rfl⟩
theorem slhasF {S : Nat} {kp : Nat → Bool} (r : Bool) (x : Int) (h : SlC col S W kp) (h0 : (decide (0 ≤ x ∧ x < 16384) && kp x.toNat) = r) :
    Calls Tryd.prog 33 #[.pointer (some ⟨S, 0, none⟩), .int .i64 x] W fun e w' => e = .returned (.bool r) ∧ W = w' := by
  obtain ⟨lo, hi, g, ws, h1, h2, h3, h4⟩ := h
  exact slhas r x h1 (by rw [h3]; exact h0)

theorem mnext (x : Int) (h : MEM B col M W σ) :
    Calls Tryd.prog 41 #[.pointer (some ⟨M, 0, none⟩), .int .i64 x] W fun e w' => (∃ r, e = .returned (.int .i64 r) ∧ NextF σ.kp (max x 0).toNat r) ∧ W = w' := by
  have HT := Lib.hid h.tz
  obtain ⟨P, sg, t, S, kb, ⟨-, -, -, k3, -⟩, -, -, -, h1, -⟩ := h.ex
  have H1 := Lib.hid h1
  clear h h1
  go_enter Tryd.func41, Tryd.ntmps41
  go_wp2_with fail
  refine (slnextF x H1.out HT.out).mono ?_
  rintro e w' ⟨⟨r, rfl, hr⟩, rfl⟩
  have HR := Lib.hid hr
  clear hr
  go_wp2
  go_ret
  exact ⟨⟨r, rfl, HR.out⟩, rfl⟩
theorem mkept_no (x : Int) (h : MEM B col M W σ) (h0 : (decide (0 ≤ x ∧ x < 16384) && σ.kp x.toNat) = false) :
    Calls Tryd.prog 10 #[.pointer (some ⟨M, 0, none⟩), .int .i64 x] W fun e w' => e = .returned (.tuple #[.slice none 0 0, .bool false]) ∧ W = w' := by
  obtain ⟨P, sg, t, S, kb, ⟨-, -, -, k3, -⟩, -, -, -, h1, -⟩ := h.ex
  have H1 := Lib.hid h1
  have H0 := Lib.hid h0
  clear h h1 h0
  go_enter Tryd.func10, Tryd.ntmps10
  go_wp2_with fail
  refine (slhasF false x H1.out H0.out).mono ?_
  rintro e w' ⟨rfl, rfl⟩
  go_wp2
  go_ret2
  exact ⟨rfl, rfl⟩
def MKeptPost (W : World) (f : Nat → Nat) (e : Ending) (w' : World) : Prop :=
  ∃ D cap, e = .returned (.tuple #[.slice (some ⟨D, 0, none⟩) 16 cap, .bool true]) ∧ W.heap.size ≤ D ∧ 16 ≤ cap ∧ PGn D 16 w' f ∧ Below W.heap.size W w'
theorem mkept_yes (x : Nat) (h : MEM B col M W σ) (h0 : σ.kp x = true) :
    Calls Tryd.prog 10 #[.pointer (some ⟨M, 0, none⟩), .int .i64 (x : Int)] W (MKeptPost W (σ.kv x)) := by
  obtain ⟨P, sg, t, S, kb, ⟨-, -, -, k3, k4⟩, -, -, -, h1, ⟨kl, hkm, -, -, hall, hiff⟩⟩ := h.ex
  have hx : x < 16384 := by
    obtain ⟨lo, hi, g, ws, q1, q2, q3, q4⟩ := h1
    by_cases e : x < 16384
    · exact e
    · rw [kp_high q2 q3 x (by omega)] at h0; cases h0
  obtain ⟨⟨x', q, cap⟩, he, rfl⟩ := (hiff x).1 h0
  obtain ⟨-, m2, m3, m4⟩ := hall _ he
  have hlook : (Instr.lookup 76 (.map (some kb)) (.int .i64 (x' : Int)) false).run Tryd.prog W = .ok (.slice (some ⟨q, 0, none⟩) 16 cap) W := lookK W kb kl hkm (x', q, cap) he
  have H1 := Lib.hid h1
  have H0 : Hid ((decide (0 ≤ (x' : Int) ∧ (x' : Int) < 16384) && σ.kp (x' : Int).toNat) = true) := Lib.hid (by rw [Int.toNat_natCast, decide_eq_true (by have : x' < 16384 := hx; omega)]; exact h0)
  have HP : Hid (∀ i, i < 16 → W.cell? ⟨q, 0 + i, none⟩ = some (.int .u8 (σ.kv x' i : Int))) := Lib.hid (fun i hi => by rw [Nat.zero_add]; exact m4.2.1 i hi)
  clear h h1 h0 hall hiff hkm he m4
  go_enter Tryd.func10, Tryd.ntmps10
  go_wp2_with fail
  refine (slhasF true (x' : Int) H1.out H0.out).mono ?_
  rintro e w' ⟨rfl, rfl⟩
  go_wp2_with fail
  refine (bclone W q 0 16 cap (σ.kv x') HP.out (by decide) (by decide)).mono ?_
  rintro e w2 ⟨D, cap', rfl, hD, hc, -, hPG, hb⟩
  have HF := Lib.hid (And.intro hPG hb)
  clear hPG hb
  go_wp2
  go_ret2
  exact ⟨D, cap', rfl, hD, hc, HF.out.1, HF.out.2⟩
theorem keep_end {w2 w3 w4 w5 : World} {P sg t S kb x D cap : Nat} {d : Nat → Nat} {l : List (Nat × Nat × Nat)} (h : MEM B col M w2 σ) (hn : MCells M P sg t S kb w2 ∧ PgC col P w2 σ.pg σ.most σ.peak ∧ StC B col sg w2 σ.c ∧ TgC col t w2 σ.f ∧ SlC col S w2 σ.kp ∧ KpC col kb w2 σ.kp σ.kv)
    (hkb : kb < w2.heap.size ∧ col kb = 6) (hall : ∀ e ∈ l, col e.2.1 = 7 ∧ 16 ≤ e.2.2 ∧ e.2.2 ≤ 9223372036854775807 ∧ PGn e.2.1 16 w2 (σ.kv e.1)) (hiff : ∀ x, σ.kp x = true ↔ ∃ e ∈ l, e.1 = x)
    (h0 : σ.kp x = false) (hq : SlStep col S w2 (onK σ.kp x) w3) (b4 : Below w3.heap.size w3 w4) (hD : w3.heap.size ≤ D) (hP : PGn D 16 w4 d) (hcap : 16 ≤ cap ∧ cap ≤ 9223372036854775807)
    (hkm : KM kb w5 (l ++ [(x, D, cap)])) (hs5 : w5.heap.size = w4.heap.size) (hob : OB kb w4 w5) : MStep B col M w2 { σ with kp := onK σ.kp x, kv := fun y => if y = x then d else σ.kv y } w5 := by
  obtain ⟨q1, q2, q3, lo, b1, b2, b3⟩ := hq
  have hloB : B ≤ lo := (h.own lo (by rw [b1 lo (Nat.le_refl _) b2]; decide)).1
  have hkB : B ≤ kb := (h.own kb (by rw [hkb.2]; decide)).1
  have hz4 := b4.size
  have hB3 : B ≤ w3.heap.size := by have := h.size; omega
  have hBe : Below B w2 w5 := ((b3.mono hloB).trans (b4.mono hB3)).trans (hob.2.2 B hkB (by omega))
  have hst : ∀ i, i < w2.heap.size → col i ≠ 5 → col i ≠ 6 → w5.heap[i]? = w2.heap[i]? := fun i hi h5 h6 => ((hob.2.1 i (by omega) (fun e => h6 (by rw [e]; exact hkb.2))).trans (b4.block i (by omega))).trans (q2 i hi h5)
  have hcol : ∀ i, i < w2.heap.size → (fun i => if i = D then 7 else col i) i = col i := fun i hi => if_neg (by omega)
  have hDz := hP.1
  refine h.set_kp (col' := fun i => if i = D then 7 else col i) hn hBe hst hcol (fun i hi hc => ?_) ?_ ⟨l ++ [(x, D, cap)], hkm, by omega, (if_neg (by omega)).trans hkb.2, fun e he => ?_, fun y => ?_⟩
  · by_cases e : i = D
    · omega
    · rw [if_neg e] at hc
      have := (h.own i hc).2
      omega
  · refine q1.move (by omega) (fun i hi hc => ?_) (fun i hi => hcol i (by omega))
    exact (hob.2.1 i (by omega) (fun e => by rw [e, hkb.2] at hc; exact absurd hc (by decide))).trans (b4.block i hi)
  · rcases List.mem_append.1 he with he | he
    · obtain ⟨m1, m2, m3, m4⟩ := hall e he
      have hne : e.1 ≠ x := fun e2 => by
        have := (hiff x).2 ⟨e, he, e2⟩
        rw [h0] at this; cases this
      refine ⟨(hcol _ m4.1).trans m1, m2, m3, ?_⟩
      simp only [if_neg hne]
      exact m4.keep (by omega) (hst _ m4.1 (by rw [m1]; decide) (by rw [m1]; decide))
    · simp only [List.mem_singleton] at he
      subst he
      refine ⟨if_pos rfl, hcap.1, hcap.2, ?_⟩
      simp only [if_true]
      exact hP.keep (by omega) (hob.2.1 D hDz (by omega))
  · unfold onK
    rw [Bool.or_eq_true, hiff, decide_eq_true_eq]
    constructor
    · rintro (⟨e, he, rfl⟩ | rfl)
      · exact ⟨e, List.mem_append_left _ he, rfl⟩
      · exact ⟨_, List.mem_append_right _ (List.mem_singleton.2 rfl), rfl⟩
    · rintro ⟨e, he, rfl⟩
      rcases List.mem_append.1 he with he | he
      · exact .inl ⟨e, he, rfl⟩
      · simp only [List.mem_singleton] at he
        subst he
        exact .inr rfl
end
end Go.Proofs.YtljjcomedjdpaaaDoor
namespace Go.Proofs.YtljjcomedjdpaaaDoor
set_option maxRecDepth 100000
open Go.RowKit Go.ChangeMaps Go.MapKept
set_option linter.unusedVariables false
set_option linter.unusedSimpArgs false

section
variable {B : Nat} {col : Nat → Nat} {M : Nat} {W : World} {σ : MS}
theorem mclear_no (x : Int) (h : MEM B col M W σ) (h0 : (decide (0 ≤ x ∧ x < 16384) && σ.kp x.toNat) = false) :
    Calls Tryd.prog 64 #[.pointer (some ⟨M, 0, none⟩), .int .i64 x] W fun e w' => e = .returned (.bool false) ∧ W = w' := by
  obtain ⟨P, sg, t, S, kb, ⟨-, -, -, k3, -⟩, -, -, -, h1, -⟩ := h.ex
  have H1 := Lib.hid h1
  have H0 := Lib.hid h0
  clear h h1 h0
  go_enter Tryd.func64, Tryd.ntmps64
  go_wp2_with fail
  refine (slclear_noF x H1.out H0.out).mono ?_
  rintro e w' ⟨rfl, rfl⟩
  go_wp2
  go_ret
  exact ⟨rfl, rfl⟩
theorem clear_end {w2 w3 w5 : World} {P sg t S kb x : Nat} {l l' : List (Nat × Nat × Nat)} (h : MEM B col M w2 σ) (hn : MCells M P sg t S kb w2 ∧ PgC col P w2 σ.pg σ.most σ.peak ∧ StC B col sg w2 σ.c ∧ TgC col t w2 σ.f ∧ SlC col S w2 σ.kp ∧ KpC col kb w2 σ.kp σ.kv)
    (hkb : kb < w2.heap.size ∧ col kb = 6) (hall : ∀ e ∈ l, col e.2.1 = 7 ∧ 16 ≤ e.2.2 ∧ e.2.2 ≤ 9223372036854775807 ∧ PGn e.2.1 16 w2 (σ.kv e.1)) (hiff : ∀ x, σ.kp x = true ↔ ∃ e ∈ l, e.1 = x)
    (hq : SlStep col S w2 (offK σ.kp x) w3) (hkm : KM kb w5 l') (hs5 : w5.heap.size = w3.heap.size) (hob : OB kb w3 w5) (hl : ∀ y, y ∈ l' ↔ (y ∈ l ∧ y.1 ≠ x)) : MStep B col M w2 { σ with kp := offK σ.kp x } w5 := by
  obtain ⟨q1, q2, q3, lo, b1, b2, b3⟩ := hq
  have hloB : B ≤ lo := (h.own lo (by rw [b1 lo (Nat.le_refl _) b2]; decide)).1
  have hkB : B ≤ kb := (h.own kb (by rw [hkb.2]; decide)).1
  have hBe : Below B w2 w5 := (b3.mono hloB).trans (hob.2.2 B hkB (by have := h.size; omega))
  have hst : ∀ i, i < w2.heap.size → col i ≠ 5 → col i ≠ 6 → w5.heap[i]? = w2.heap[i]? := fun i hi h5 h6 => (hob.2.1 i (by omega) (fun e => h6 (by rw [e]; exact hkb.2))).trans (q2 i hi h5)
  refine h.set_kp (col' := col) hn hBe hst (fun _ _ => rfl) (fun i hi hc => by have := (h.own i hc).2; omega) ?_ ⟨l', hkm, by omega, hkb.2, fun e he => ?_, fun y => ?_⟩
  · exact q1.move (by omega) (fun i hi hc => hob.2.1 i (by omega) (fun e => by rw [e, hkb.2] at hc; exact absurd hc (by decide))) (fun _ _ => rfl)
  · obtain ⟨m1, m2, m3, m4⟩ := hall e ((hl e).1 he).1
    exact ⟨m1, m2, m3, m4.keep (by omega) (hst _ m4.1 (by rw [m1]; decide) (by rw [m1]; decide))⟩
  · unfold offK
    rw [Bool.and_eq_true, hiff, Bool.not_eq_true', decide_eq_false_iff_not]
    constructor
    · rintro ⟨⟨e, he, rfl⟩, hne⟩
      exact ⟨e, (hl e).2 ⟨he, fun e2 => hne e2.symm⟩, rfl⟩
    · rintro ⟨e, he, rfl⟩
      obtain ⟨a, b⟩ := (hl e).1 he
      exact ⟨⟨e, a, rfl⟩, fun e2 => b e2.symm⟩
theorem mclear_yes (x : Nat) (h : MEM B col M W σ) (h0 : σ.kp x = true) :
    Calls Tryd.prog 64 #[.pointer (some ⟨M, 0, none⟩), .int .i64 (x : Int)] W fun e w' => e = .returned (.bool true) ∧ MStep B col M W { σ with kp := offK σ.kp x } w' := by
  have H := Lib.hid h
  obtain ⟨P, sg, t, S, kb, hn⟩ := h.ex
  have HN := Lib.hid hn
  obtain ⟨⟨-, -, -, k3, k4⟩, -, -, -, h1, ⟨kl, hkm, hkz, hk6, hall, hiff⟩⟩ := hn
  have hx : x < 16384 := by
    obtain ⟨lo, hi, g, ws, q1, q2, q3, q4⟩ := h1
    by_cases e : x < 16384
    · exact e
    · rw [kp_high q2 q3 x (by omega)] at h0; cases h0
  have HK := Lib.hid (And.intro hkm (And.intro (And.intro hkz hk6) (And.intro hall hiff)))
  have H1 := Lib.hid h1
  have H0 := Lib.hid h0
  have hMz := h.lo.2
  clear h h1 h0 hall hiff hkm
  go_enter Tryd.func64, Tryd.ntmps64
  go_wp2_with fail
  refine (slclearF x H1.out hx H0.out).mono ?_
  rintro e w3 ⟨rfl, hq⟩
  have c4 : w3.cell? ⟨M, 4, none⟩ = some (.map (some kb)) := (World.cell?_of_block (hq.2.1 M hMz (by rw [H.out.me]; decide))).trans k4
  obtain ⟨w5, l2, hdel, hkm2, hs2, hob2, hmem2⟩ := delK w3 kb kl (HK.out.1.keep (hq.2.1 kb hkz (by rw [hk6]; decide))) (by rw [hq.2.2.1]; exact hkz) x (by omega)
  have hdel2 : ∀ ty, (Builtin.delete_ #[76, 3] ty #[.map (some kb), .int .i64 (x : Int)]).run Tryd.prog w3 = .ok (.tuple #[]) w5 := hdel
  have HF := Lib.hid (clear_end H.out HN.out HK.out.2.1 HK.out.2.2.1 HK.out.2.2.2 hq hkm2 hs2 hob2 hmem2)
  clear hdel hkm2 hs2 hob2 hmem2 hq
  go_wp2
  go_ret
  exact ⟨rfl, HF.out⟩

theorem mkeep_no (r : Int) (a : Int) (A : Option Addr) (n cb : Nat) (h : MEM B col M W σ) (hr : n ≠ 16 ∧ r = 1 ∨ n = 16 ∧ a.tmod 16 ≠ 0 ∧ r = 10 ∨ n = 16 ∧ a.tmod 16 = 0 ∧ refE σ.pg a 16 = r ∧ r ≠ 0) (hn : n ≤ 9223372036854775807) :
    Calls Tryd.prog 26 #[.pointer (some ⟨M, 0, none⟩), .int .i64 a, .slice A n cb] W fun e w' => e = .returned (.int .i64 r) ∧ Below W.heap.size W w' := by
  have H := Lib.hid h
  rcases hr with ⟨h1, rfl⟩ | ⟨rfl, h1, rfl⟩ | ⟨rfl, h1, h2, h3⟩
  · have h2 : ((n : Int) == 16) = false := by simpa using (show ¬ (n : Int) = 16 by omega)
    clear H h
    go_enter Tryd.func26, Tryd.ntmps26
    go_wp2
    go_ret
    exact ⟨rfl, Below.refl _ _⟩
  · have h2 : (a.tmod 16 == 0) = false := by simpa using h1
    clear H h
    go_enter Tryd.func26, Tryd.ntmps26
    go_wp2
    go_ret
    exact ⟨rfl, Below.refl _ _⟩
  · have h4 : (a.tmod 16 == 0) = true := by simpa using h1
    have h5 : (r == 0) = false := by simpa using h3
    have H2 := Lib.hid h2
    have H3 := Lib.hid h3
    clear h h1 h2 h3
    go_enter Tryd.func26, Tryd.ntmps26
    go_wp2_with fail
    refine (mfill_no r a 16 0 H.out H2.out H3.out).mono ?_
    rintro e w1 ⟨rfl, hb⟩
    have HB := Lib.hid hb
    clear hb
    go_wp2
    go_ret
    exact ⟨rfl, HB.out⟩
/-- What Keep does. -/
def keepS (σ : MS) (a : Nat) (d : Nat → Nat) : MS := { σ with c := over σ.c a 16 (fun _ => 0), kp := onK σ.kp (a / 16), kv := fun y => if y = a / 16 then d else σ.kv y }
theorem onK_off {kp : Nat → Bool} {a : Nat} (h : a % 16 = 0) : onK (offF kp (grF a) (grN a 16)) (a / 16) = onK kp (a / 16) := by
  have e1 : grF a = a / 16 := by unfold grF; omega
  have e2 : grN a 16 = 1 := by unfold grN; omega
  funext y
  unfold onK offF
  rw [e1, e2]
  by_cases e : a / 16 = y
  · rw [decide_eq_true e, Bool.or_true, Bool.or_true]
  · rw [decide_eq_false e, decide_eq_false (by omega)]
    simp
set_option maxHeartbeats 3200000 in
theorem mkeep_ok (a sb so cb : Nat) (d : Nat → Nat) (h : MEM B col M W σ) (ha : a % 16 = 0) (ho : openB σ.pg a 16 = true)
    (hs : ∀ i, i < 16 → W.cell? ⟨sb, so + i, none⟩ = some (.int .u8 (d i : Int))) (hsb : col sb = 0) :
    Calls Tryd.prog 26 #[.pointer (some ⟨M, 0, none⟩), .int .i64 (a : Int), .slice (some ⟨sb, so, none⟩) 16 cb] W fun e w' => e = .returned (.int .i64 0) ∧ MStep B col M W (keepS σ a d) w' := by
  have H := Lib.hid h
  have hm := mayB_iff.1 (openB_may ho)
  have hsz := World.block_lt_of_cell? W _ (hs 0 (by decide))
  have HO := Lib.hid ho
  have HSR := Lib.hid (And.intro hs hsb)
  have h4 : ((a : Int).tmod 16 == 0) = true := by rw [Int.tmod_eq_emod_of_nonneg (by omega), beq_iff_eq]; omega
  have g1 : (a : Int).tdiv 16 = ((a / 16 : Nat) : Int) := by rw [Int.tdiv_eq_ediv_of_nonneg (by omega)]; omega
  have g2 : (a : Int) / 16 = ((a / 16 : Nat) : Int) := by omega
  have HA := Lib.hid ha
  have hx : a / 16 < 16384 := by omega
  have HAM : Hid (a + 16 ≤ 262144) := Lib.hid (by omega)
  obtain ⟨x, hxa⟩ : ∃ x, a / 16 = x := ⟨_, rfl⟩
  rw [hxa] at g1 g2 hx
  have HXA := Lib.hid hxa
  have x0 : (0 : Int) ≤ (x : Int) := by omega
  have gw : IntKind.i64.wrap (x : Int) = (x : Int) := IntWalk.i64_in _ (by omega)
  have HG := Lib.hid (And.intro g1 g2)
  have HHX := Lib.hid hx
  have HFL : Hid (Calls Tryd.prog 49 #[.pointer (some ⟨M, 0, none⟩), .agg #[.int .i64 (a : Int), .int .i64 16], .int .u8 0] W fun e w' => e = .returned (.int .i64 0) ∧ MStep B col M W (wrS σ a 16 (fun _ => 0)) w') := Lib.hid (mfill_ok a 16 0 H.out HO.out (by decide))
  obtain ⟨A, hA⟩ : ∃ A : Int, (a : Int) = A := ⟨_, rfl⟩
  rw [hA] at HFL HG h4
  try rw [hA]
  clear h ho hs hsb hm ha hxa g1 g2 hx x0 gw hA HO
  go_enter Tryd.func26, Tryd.ntmps26
  go_wp2_with fail
  refine HFL.out.mono ?_
  rintro e w2 ⟨rfl, col2, hm2, hc2, ho2, hb2⟩
  have HM2 := Lib.hid hm2
  obtain ⟨P, sg, t, S, kb, hn⟩ := hm2.ex
  have HN := Lib.hid hn
  obtain ⟨⟨-, -, -, k3, k4⟩, -, -, -, h1, ⟨kl, hkm, hkz, hk6, hall, hiff⟩⟩ := hn
  have HK := Lib.hid (And.intro hkm (And.intro (And.intro hkz hk6) (And.intro hall hiff)))
  have HS1 := Lib.hid h1
  have HAG : Hid (∀ w3, MStep B col2 M w2 { wrS σ a 16 (fun _ => 0) with kp := onK (wrS σ a 16 (fun _ => 0)).kp x, kv := fun y => if y = x then d else σ.kv y } w3 → MStep B col M W (keepS σ a d) w3) := Lib.hid (fun w3 h3 => by
    have h4 := MStep.join hc2 ho2 hb2 hm2.size (Below.refl _ _) h3
    have e : ({ wrS σ a 16 (fun _ => 0) with kp := onK (wrS σ a 16 (fun _ => 0)).kp x, kv := fun y => if y = x then d else σ.kv y } : MS) = keepS σ a d := by
      unfold wrS keepS
      rw [← HXA.out]
      have := onK_off (kp := σ.kp) HA.out
      rw [show grN (a : Int) ((16 : Nat) : Int) = grN a 16 from rfl]
      simp only [this]
    exact h4.same e)
  have hMz := hm2.lo.2
  have hno : (wrS σ a 16 (fun _ => 0)).kp x = false := by
    show offF σ.kp (grF a) (grN a 16) x = false
    have e1 : grF a = x := by rw [← HXA.out]; unfold grF; omega
    have e2 : grN a 16 = 1 := by have := HA.out; unfold grN; omega
    unfold offF
    rw [e1, e2, decide_eq_true (by omega), Bool.not_true, Bool.and_false]
  have HNO := Lib.hid hno
  have HW2 : Hid ((∀ i, i < 16 → w2.cell? ⟨sb, so + i, none⟩ = some (.int .u8 (d i : Int))) ∧ col2 sb = 0) := Lib.hid ⟨fun i hi => (World.cell?_of_block (ho2 sb hsz (by rw [HSR.out.2]; decide))).trans (HSR.out.1 i hi), by rw [hc2 sb hsz]; exact HSR.out.2⟩
  have hsz2 : sb < w2.heap.size := Nat.lt_of_lt_of_le hsz hb2.size
  clear hm2 hc2 ho2 hb2 h1 hall hiff hkm hno
  obtain ⟨g1, g2⟩ := HG.out
  have gw : IntKind.i64.wrap (x : Int) = (x : Int) := IntWalk.i64_in _ (by have := HHX.out; omega)
  go_wp2_with fail
  refine (slkeepF x HS1.out HHX.out HNO.out).mono ?_
  rintro e w3 ⟨rfl, hq⟩
  have c4 : w3.cell? ⟨M, 4, none⟩ = some (.map (some kb)) := (World.cell?_of_block (hq.2.1 M hMz (by rw [HM2.out.me]; decide))).trans k4
  have HQ := Lib.hid hq
  have HW3 : Hid (∀ i, i < 16 → w3.drew.cell? ⟨sb, so + i, none⟩ = some (.int .u8 (d i : Int))) := Lib.hid (fun i hi => (World.cell?_of_block (hq.2.1 sb hsz2 (by rw [HW2.out.2]; decide))).trans (HW2.out.1 i hi))
  have hMz3 : M < w3.heap.size := by rw [hq.2.2.1]; exact hMz
  clear hq k3 k4
  go_upto_region 8 with (fail)
  refine wp_region_held_drew (S := fun w' => w'.cell? ⟨M, 4, none⟩ = some (.map (some kb))) (by kernel_rfl) ?_ (fun hHeld => ?_)
  · exact c4
  refine wpAnyH_take (i := 0) (v := ?_) rfl (by kernel_rfl) (by kernel_rfl) (by kernel_rfl) (fun _ _ _ h => h) (Or.inl ⟨by kernel_rfl, ?_⟩) (by assumption) ?_
  rotate_left
  · (intro w hSw; (try dsimp only at hSw); go_simp)
    try (with_reducible rfl)
  rotate_left
  try simp (maxSteps := 4000000) only [Act.put, List.setIfInBounds_toArray, List.set_cons_zero, List.set_cons_succ, List.getElem_toArray, List.getElem_cons_zero, List.getElem_cons_succ]
  refine wpAnyH_take (i := 1) (v := ?_) rfl (by kernel_rfl) (by kernel_rfl) (by kernel_rfl) (fun _ _ _ h => h) (Or.inl ⟨by kernel_rfl, ?_⟩) (by assumption) ?_
  rotate_left
  · (intro w hSw; (try dsimp only at hSw); go_simp)
    try (with_reducible rfl)
  rotate_left
  try simp (maxSteps := 4000000) only [Act.put, List.setIfInBounds_toArray, List.set_cons_zero, List.set_cons_succ, List.getElem_toArray, List.getElem_cons_zero, List.getElem_cons_succ]
  refine wpAnyH_take (i := 2) (v := ?_) rfl (by kernel_rfl) (by kernel_rfl) (by kernel_rfl) (fun _ _ _ h => h) (Or.inl ⟨by kernel_rfl, ?_⟩) (by assumption) ?_
  rotate_left
  · (intro w hSw; (try dsimp only at hSw); go_simp)
    try (with_reducible rfl)
  rotate_left
  try simp (maxSteps := 4000000) only [Act.put, List.setIfInBounds_toArray, List.set_cons_zero, List.set_cons_succ, List.getElem_toArray, List.getElem_cons_zero, List.getElem_cons_succ]
  refine wpAnyH_take (i := 3) (v := ?_) rfl (by kernel_rfl) (by kernel_rfl) (by kernel_rfl) (fun _ _ _ h => h) (Or.inl ⟨by kernel_rfl, ?_⟩) (by assumption) ?_
  rotate_left
  · (intro w hSw; (try dsimp only at hSw); go_simp)
    try (with_reducible rfl)
  rotate_left
  try simp (maxSteps := 4000000) only [Act.put, List.setIfInBounds_toArray, List.set_cons_zero, List.set_cons_succ, List.getElem_toArray, List.getElem_cons_zero, List.getElem_cons_succ]
  refine wpAnyH_take (i := 4) (v := ?_) rfl (by kernel_rfl) (by kernel_rfl) (by kernel_rfl) (fun _ _ _ h => h) (Or.inl ⟨by kernel_rfl, ?_⟩) (by assumption) ?_
  rotate_left
  · (intro w hSw; (try dsimp only at hSw); go_simp)
    try (with_reducible rfl)
  rotate_left
  try simp (maxSteps := 4000000) only [Act.put, List.setIfInBounds_toArray, List.set_cons_zero, List.set_cons_succ, List.getElem_toArray, List.getElem_cons_zero, List.getElem_cons_succ]
  refine wpAnyH_take (i := 5) (v := ?_) rfl (by kernel_rfl) (by kernel_rfl) (by kernel_rfl) (fun _ _ _ h => h) (Or.inl ⟨by kernel_rfl, ?_⟩) (by assumption) ?_
  rotate_left
  · (intro w hSw; (try dsimp only at hSw); go_simp)
    try (with_reducible rfl)
  rotate_left
  try simp (maxSteps := 4000000) only [Act.put, List.setIfInBounds_toArray, List.set_cons_zero, List.set_cons_succ, List.getElem_toArray, List.getElem_cons_zero, List.getElem_cons_succ]
  refine wpAnyH_take (i := 6) (v := ?_) rfl (by kernel_rfl) (by kernel_rfl) (by kernel_rfl) (fun _ _ _ h => h) (Or.inl ⟨by kernel_rfl, ?_⟩) (by assumption) ?_
  rotate_left
  · (intro w hSw; (try dsimp only at hSw); go_simp)
    try (with_reducible rfl)
  rotate_left
  try simp (maxSteps := 4000000) only [Act.put, List.setIfInBounds_toArray, List.set_cons_zero, List.set_cons_succ, List.getElem_toArray, List.getElem_cons_zero, List.getElem_cons_succ]
  refine wpAnyH_take (i := 7) (v := ?_) rfl (by kernel_rfl) (by kernel_rfl) (by kernel_rfl) (fun _ _ _ h => h) (Or.inl ⟨by kernel_rfl, ?_⟩) (by assumption) ?_
  rotate_left
  · (intro w hSw; (try dsimp only at hSw); go_simp)
    try (with_reducible rfl)
  rotate_left
  try simp (maxSteps := 4000000) only [Act.put, List.setIfInBounds_toArray, List.set_cons_zero, List.set_cons_succ, List.getElem_toArray, List.getElem_cons_zero, List.getElem_cons_succ]
  refine wpAnyH_ready (rs := [8]) (by kernel_rfl) (by simp) ?_
  refine AllReadyH.cons rfl (fun K2 hK2 => ?_) AllReadyH.nil
  go_simp
  with_reducible refine Calls.mono (bclone w3.drew sb so 16 cb d HW3.out (by decide) (by decide)) ?_
  rintro e w4 ⟨D, cap, rfl, hD, hc, hcm, hPG, hb⟩
  have hb4 : Below w3.heap.size w3 w4 := (Below.refl w3.heap.size w3).drew.trans hb
  have hkz3 : kb < w3.heap.size := by rw [HQ.out.2.2.1]; exact hkz
  have hkm4 : KM kb w4 kl := HK.out.1.keep ((hb4.block kb hkz3).trans (HQ.out.2.1 kb hkz (by rw [hk6]; decide)))
  obtain ⟨w5, hins, hkm5, hs5, hob5⟩ := insK w4 kb kl hkm4 (by have := hb4.size; omega) (x, D, cap) (by show x < 1099511627776; have := HHX.out; omega) (fun y hy e => by
    have := (HK.out.2.2.2 x).2 ⟨y, hy, e⟩
    rw [HNO.out] at this; cases this)
  have hins2 : (Instr.mapUpdate 76 (.map (some kb)) (.int .i64 (x : Int)) (.slice (some ⟨D, 0, none⟩) 16 cap)).run Tryd.prog w4 = .ok () w5 := hins
  have HF := Lib.hid (HAG.out w5 (keep_end HM2.out HN.out HK.out.2.1 HK.out.2.2.1 HK.out.2.2.2 HNO.out HQ.out hb4 hD hPG ⟨hc, hcm⟩ hkm5 hs5 hob5))
  have e4 : w4.cell? ⟨M, 4, none⟩ = some (.map (some kb)) := (hb4.cell (p := ⟨M, 4, none⟩) hMz3).trans c4
  have hMk : M ≠ kb := fun e => by have := HM2.out.me; rw [e, hk6] at this; exact absurd this (by decide)
  have e5 : w5.cell? ⟨M, 4, none⟩ = some (.map (some kb)) := (World.cell?_of_block (hob5.2.1 M (by have := hb4.size; omega) hMk)).trans e4
  clear hins hkm5 hs5 hob5 hkm4 hPG hb hb4 hD HAG
  refine hK2.out _ _ e4 (fun hHeld2 => ?_)
  clear hK2 K2 hHeld
  have hHeld := hHeld2
  clear hHeld2
  try simp (maxSteps := 4000000) only [Act.put, List.setIfInBounds_toArray, List.set_cons_zero, List.set_cons_succ]
  refine wpAnyH_ready (rs := [9]) (by kernel_rfl) (by simp) ?_
  refine AllReadyH.cons rfl (fun K2 hK2 => ?_) AllReadyH.nil
  go_simp
  refine hK2.out _ _ e5 (fun hHeld2 => ?_)
  clear hK2 K2 hHeld
  have hHeld := hHeld2
  clear hHeld2
  try simp (maxSteps := 4000000) only [Act.put, List.setIfInBounds_toArray, List.set_cons_zero, List.set_cons_succ]
  refine wpAnyH_done (by kernel_rfl) ?_ _
  go_wp2
  go_ret
  exact ⟨rfl, HF.out⟩
end
end Go.Proofs.YtljjcomedjdpaaaDoor

