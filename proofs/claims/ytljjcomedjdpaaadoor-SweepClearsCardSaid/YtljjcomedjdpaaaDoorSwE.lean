/- Contracts of package sweep: Known. -/
import Derived.Test.YtljjcomedjdpaaaDoorSwD
import Derived.Deep.RegionHeld3
import Derived.Deep.DeepCutAuto
namespace Go.Proofs.YtljjcomedjdpaaaDoor
set_option maxRecDepth 100000
open Go.RowKit Go.ChangeMaps Go.MapKept
set_option linter.unusedVariables false
set_option linter.unusedSimpArgs false

/-- Is one of the first n so? -/
def anyF (p : Nat → Bool) : Nat → Bool
  | 0 => false
  | n + 1 => anyF p n || p n
theorem anyF_iff {p : Nat → Bool} {n : Nat} : anyF p n = true ↔ ∃ y, y < n ∧ p y = true := by
  induction n with
  | zero => exact ⟨(fun h => by cases h), fun ⟨y, h, _⟩ => by omega⟩
  | succ n ih =>
    rw [anyF, Bool.or_eq_true, ih]
    constructor
    · rintro (⟨y, h1, h2⟩ | h)
      · exact ⟨y, by omega, h2⟩
      · exact ⟨n, by omega, h⟩
    · rintro ⟨y, h1, h2⟩
      by_cases e : y = n
      · subst e; exact .inr h2
      · exact .inl ⟨y, by omega, h2⟩
theorem anyF_no {p : Nat → Bool} {n : Nat} (h : ∀ y, y < n → p y = false) : anyF p n = false := by
  cases e : anyF p n with
  | false => rfl
  | true => obtain ⟨y, h1, h2⟩ := anyF_iff.1 e; rw [h y h1] at h2; cases h2
/-- What is kept in a granule, as a capability. -/
def capK (σ : MS) (g : Nat) : CapV := if σ.kp g then ⟨get3 (σ.kv g) 1, get3 (σ.kv g) 4, (get3 (σ.kv g) 1 : Int) + get3 (σ.kv g) 7 - 1048576, (σ.kv g 10 : Nat), (σ.kv g 11 : Nat), true⟩ else cap0
theorem Kept9.ok {d : Nat → Nat} (h : Kept9 d) : codeOk d = true ∧ Cap9 ⟨get3 d 1, get3 d 4, (get3 d 1 : Int) + get3 d 7 - 1048576, (d 10 : Nat), (d 11 : Nat), true⟩ := by
  obtain ⟨B, L, D, P, T, C, rfl, hD, h9⟩ := h
  have q : (0 : Int) ≤ (B : Int) ∧ (B : Int) ≤ 2047 ∧ (1 : Int) ≤ (L : Int) ∧ (L : Int) ≤ 256 ∧ (L : Int) ≤ 2048 - (B : Int) ∧ capOkB (B : Int) (L : Int) C (P : Int) (T : Int) = true := h9
  obtain ⟨-, hb, hc, hp, ht⟩ := ok_base (v := true) (by rw [q.2.2.2.2.2]; rfl : (true && capOkB (B : Int) L C P T) = true)
  have k := codeF_get B L D P T (by omega) (by omega) (by omega)
  refine ⟨by rw [codeOk_F B L D P T C (by omega) (by omega) (by omega) hD]; exact q.2.2.2.2.2, ?_⟩
  rw [k.1, k.2.1, k.2.2, show codeF B L D P T 10 = P from rfl, show codeF B L D P T 11 = T from rfl, show (B : Int) + (D : Int) - 1048576 = C by omega]
  exact h9
theorem MadeG.capK {σ : MS} {f : Nat → CapV} (h : MadeG σ f) {g : Nat} (hv : (capK σ g).v = true) : Cap9 (Go.Proofs.YtljjcomedjdpaaaDoor.capK σ g) := by
  unfold Go.Proofs.YtljjcomedjdpaaaDoor.capK at hv ⊢
  cases e : σ.kp g with
  | false => rw [e] at hv; cases hv
  | true => exact (h.kp g e).2.ok.2
theorem Cap9.may {x : CapV} (h : Cap9 x) : mayB x.b x.l = true := mayB_iff.2 (by obtain ⟨h1, h2, h3, h4, h5, -⟩ := h; omega)
theorem meetL_any (f : Nat → CapV) (a n : Int) (k : Nat) : decide (((meetL f a n k).length : Int) > 0) = anyF (fun h => meetsC (f h) a n) k := by
  induction k with
  | zero => rfl
  | succ k ih =>
    rw [anyF, ← ih, meetL_succ, List.length_append]
    cases meetsC (f k) a n with
    | true => simp
    | false => simp
theorem PGn.row9 {D n : Nat} {W : World} {f : Nat → Nat} (h : PGn D n W f) : RowU D n W f := ⟨h.1, fun i hi => ⟨h.2.1 i hi, h.2.2 i⟩⟩
/-- Where the search stands: none from here on, or at y, ahead of which none is it. -/
def KnX (σ : MS) (a n x : Int) : Prop := (x = -1 ∧ ∀ y, y < 128 → meetsC (capK σ y) a n = false) ∨ ∃ y : Nat, x = y ∧ y < 128 ∧ σ.kp y = true ∧ ∀ z, z < y → meetsC (capK σ z) a n = false
theorem capK_no {σ : MS} {y : Nat} (a n : Int) (h : σ.kp y = false) : meetsC (capK σ y) a n = false := by
  unfold capK
  rw [h]
  rfl
theorem KnX.next {σ : MS} {f : Nat → CapV} {a n r : Int} {y : Nat} (hg : MadeG σ f) (h : NextF σ.kp y r) (hy : ∀ z, z < y → meetsC (capK σ z) a n = false) : KnX σ a n r := by
  rcases h with ⟨rfl, h⟩ | ⟨x, rfl, h1, h2, h3, h4⟩
  · refine .inl ⟨rfl, fun z hz => ?_⟩
    by_cases e : z < y
    · exact hy z e
    · exact capK_no _ _ (h z (by omega))
  · refine .inr ⟨x, rfl, (hg.kp x h3).1, h3, fun z hz => ?_⟩
    by_cases e : z < y
    · exact hy z e
    · exact capK_no _ _ (h4 z (by omega) hz)
def SpanAt (x : Nat) (W : World) (a n : Int) : Prop := x < W.heap.size ∧ W.cell? ⟨x, 0, none⟩ = some (.int .i64 a) ∧ W.cell? ⟨x, 1, none⟩ = some (.int .i64 n)
theorem SpanAt.below {x : Nat} {W W' : World} {a n : Int} (h : SpanAt x W a n) (hb : Below W.heap.size W W') : SpanAt x W' a n :=
  ⟨Nat.lt_of_lt_of_le h.1 hb.size, (hb.cell (p := ⟨x, 0, none⟩) h.1).trans h.2.1, (hb.cell (p := ⟨x, 1, none⟩) h.1).trans h.2.2⟩
theorem SpanAt.new (W : World) (a n : Int) (T : TypeId) : SpanAt W.heap.size (W.alloc (.cells #[.int .i64 a, .int .i64 n] T)) a n := ⟨by simp, by simp, by simp⟩
set_option maxHeartbeats 6400000 in
theorem sknown (B : Nat) (col : Nat → Nat) (M R g : Nat) (V W : World) (σ : MS) (f : Nat → CapV) (a n : Int) (K : Bool) (h : MDE B col M R g V W σ f) (hg : MadeG σ f) (hK : (anyF (fun h => meetsC (f h) a n) 6 || anyF (fun y => meetsC (capK σ y) a n) 128) = K) :
    Calls Tryd.prog 19 #[.pointer (some ⟨M, 0, none⟩), .pointer (some ⟨R, 0, none⟩), .agg #[.int .i64 a, .int .i64 n]] W fun e w' => e = .returned (.bool K) ∧ Below W.heap.size W w' := by
  have H := Lib.hid h
  have HG := Lib.hid hg
  have HK := Lib.hid hK
  clear h hg hK
  go_enter Tryd.func19, Tryd.ntmps19
  go_upto_region 1 with (fail)
  have hal := alc0 W (.cells #[.int .i64 a, .int .i64 n] 33)
  have HX := Lib.hid (SpanAt.new W a n 33)
  have H1 := Lib.hid (H.out.later hal)
  have HB := Lib.hid hal
  clear hal H
  generalize hw1 : W.alloc (.cells #[.int .i64 a, .int .i64 n] 33) = w1 at *
  clear hw1
  obtain ⟨x5, hx5⟩ : ∃ x5, W.heap.size = x5 := ⟨_, rfl⟩
  rw [hx5] at HX
  try rw [hx5]
  clear hx5
  obtain ⟨-, s0, s1⟩ := HX.out
  go_wp2_with fail
  refine (cmeetsL R g 6 a n w1 f H1.out.reg).mono ?_
  rintro e w2 ⟨v, b, rfl, hz, -, hb⟩
  have hz' := hz
  obtain ⟨A5, n5, c5, rfl, hlen, -⟩ := hz'
  have hm := meetL_any f a n 6
  have hle := meetL_le f a n 6
  rw [hlen] at hm hle
  obtain ⟨X, hX⟩ : ∃ X, anyF (fun h => meetsC (f h) a n) 6 = X := ⟨_, rfl⟩
  rw [hX] at hm
  have HK2 : Hid ((X || anyF (fun y => meetsC (capK σ y) a n) 128) = K) := Lib.hid (by rw [← hX]; exact HK.out)
  have H2 := Lib.hid (H1.out.later hb)
  have HX2 := Lib.hid (HX.out.below hb)
  have HB2 := Lib.hid (thn HB.out hb)
  have hn64 : n5 ≤ 64 := by omega
  clear hz hlen hle hb hX HK H1 HX HB s0 s1
  cases X with
  | true =>
    have hn : (0 : Int) < (n5 : Int) := by simpa using hm
    obtain rfl : true = K := by have := HK2.out; simpa using this
    clear hm
    go_wp2_with fail
    go_ret
    exact ⟨rfl, HB2.out⟩
  | false =>
    have hn : ¬ (0 : Int) < (n5 : Int) := by simpa using hm
    have HK3 : Hid (anyF (fun y => meetsC (capK σ y) a n) 128 = K) := Lib.hid (by simpa using HK2.out)
    clear hm HK2
    go_wp2_with fail
    refine (mnext 0 H2.out.mem).mono ?_
    rintro e w3 ⟨⟨r, rfl, hr⟩, rfl⟩
    have HKN : Hid (KnX σ a n r) := Lib.hid (KnX.next HG.out (y := 0) (by simpa using hr) (fun z hz => by omega))
    clear hr
    go_wp2_with fail
    go_loopw [7] (fun v7 wr => ∃ x : Int, v7 = .int .i64 x ∧ Hid (KnX σ a n x) ∧ Hid (Below w2.heap.size w2 wr)) (fun v7 _ => if intOf v7 < 0 then 0 else 200 - (intOf v7).toNat)
    case atStart => exact ⟨r, rfl, HKN, Lib.hid (Below.refl _ _)⟩
    case round =>
      clear HKN
      obtain ⟨x, rfl, HKN, HR⟩ := hrel
      rcases HKN.out with ⟨rfl, hno⟩ | ⟨y, rfl, hy, hk, hno⟩
      · obtain rfl : false = K := by rw [← HK3.out]; exact (anyF_no hno).symm
        clear hno
        go_wp2_with fail
        go_ret
        exact ⟨rfl, thn HB2.out HR.out⟩
      · have HNO := Lib.hid hno
        have HKP := Lib.hid hk
        have hy0 : (0 : Int) ≤ (y : Int) := by omega
        have HY := Lib.hid hy
        clear hno hk HKN
        have HRM := Lib.hid (H2.out.later HR.out)
        have HRX := Lib.hid (HX2.out.below HR.out)
        go_wp2_with fail
        refine (mkept_yes y HRM.out.mem HKP.out).mono ?_
        rintro e w4 ⟨D, cap, rfl, hD, hcap, hP, hb4⟩
        have HP4 := Lib.hid hP.row9
        have HM4 := Lib.hid (HRM.out.later hb4)
        have HX4 := Lib.hid (HRX.out.below hb4)
        have HB4 := Lib.hid (thn HR.out hb4)
        have HCP := Lib.hid hcap
        clear hD hP hb4 HRM HRX hcap
        have HOK : Hid (codeOk (σ.kv y) = true) := Lib.hid (HG.out.kp y HKP.out).2.ok.1
        obtain ⟨bb, hbb⟩ : ∃ q, get3 (σ.kv y) 1 = q := ⟨_, rfl⟩
        obtain ⟨ll, hll⟩ : ∃ q, get3 (σ.kv y) 4 = q := ⟨_, rfl⟩
        obtain ⟨cc, hcc⟩ : ∃ q, (bb : Int) + get3 (σ.kv y) 7 - 1048576 = q := ⟨_, rfl⟩
        obtain ⟨pp, hpp⟩ : ∃ q, σ.kv y 10 = q := ⟨_, rfl⟩
        obtain ⟨tt, htt⟩ : ∃ q, σ.kv y 11 = q := ⟨_, rfl⟩
        have HCK : Hid (capK σ y = ⟨bb, ll, cc, pp, tt, true⟩) := Lib.hid (by
          unfold capK
          rw [HKP.out, if_pos rfl, hbb, hll, hcc, hpp, htt])
        have HE := Lib.hid (And.intro hbb (And.intro hll (And.intro hcc (And.intro hpp htt))))
        clear hbb hll hcc hpp htt
        go_wp2_with fail
        refine (cread_ok D cap (σ.kv y) w4 HP4.out (HG.out.kv y) HCP.out HOK.out bb ll pp tt cc HE.out.1 HE.out.2.1 HE.out.2.2.1 HE.out.2.2.2.1 HE.out.2.2.2.2).mono ?_
        rintro e w5 ⟨rfl, hb5⟩
        have HM5 := Lib.hid (HM4.out.later hb5)
        have HX5 := Lib.hid (HX4.out.below hb5)
        have HB5 := Lib.hid (thn HB4.out hb5)
        clear hb5 HM4 HX4 HB4 HP4 HE
        go_upto_region 8 with (fail)
        have hal := alc0 w5 (.cells #[.int .i64 (bb : Int), .int .i64 (ll : Int), .int .i64 cc, .int .i64 (pp : Int), .int .i64 (tt : Int), .bool true] 37)
        have HC6 := Lib.hid (CapAt.new w5 bb ll cc pp tt true 37)
        have HM6 := Lib.hid (HM5.out.later hal)
        have HX6 := Lib.hid (HX5.out.below hal)
        have HB6 := Lib.hid (thn HB5.out hal)
        clear hal HM5 HX5 HB5
        generalize hw6 : w5.alloc (.cells #[.int .i64 (bb : Int), .int .i64 (ll : Int), .int .i64 cc, .int .i64 (pp : Int), .int .i64 (tt : Int), .bool true] 37) = w6 at *
        clear hw6
        generalize w5.heap.size = x10 at *
        obtain ⟨-, z0, z1, z2, z3, z4, z5, -⟩ := HC6.out
        obtain ⟨-, s0, s1⟩ := HX6.out
        obtain ⟨X, hX⟩ : ∃ X, meetsC (capK σ y) a n = X := ⟨_, rfl⟩
        have HXC := Lib.hid hX
        have HXM : Hid ((true && meetsB (bb : Int) (ll : Int) a n) = X) := Lib.hid (by rw [← hX, HCK.out]; rfl)
        clear hX
        go_wp2_with fail
        with_reducible refine Calls.mono (cmeets X (bb : Int) (ll : Int) cc (pp : Int) (tt : Int) true a n _ HXM.out) ?_
        rintro e w7 ⟨rfl, hb7⟩
        have HM7 := Lib.hid (HM6.out.later hb7)
        have HB7 := Lib.hid (thn HB6.out hb7)
        clear hb7 HM6 HX6 HB6 HC6 z0 z1 z2 z3 z4 z5 s0 s1 HXM
        cases X with
        | true =>
          obtain rfl : true = K := by rw [← HK3.out]; exact (anyF_iff.2 ⟨y, HY.out, HXC.out⟩).symm
          go_wp2_with fail
          go_ret
          exact ⟨rfl, thn HB2.out HB7.out⟩
        | false =>
          have hy1 : y < 128 := HY.out
          go_wp2_with fail
          refine (mnext _ HM7.out.mem).mono ?_
          rintro e w8 ⟨⟨r, rfl, hr⟩, rfl⟩
          have hmx : (max ((y : Int) + 1) 0).toNat = y + 1 := by omega
          try simp only [hmx] at hr
          have HKN : Hid (KnX σ a n r) := Lib.hid (KnX.next HG.out (y := y + 1) (by simpa [hmx] using hr) (fun z hz => by
            by_cases e : z = y
            · rw [e]; exact HXC.out
            · exact HNO.out z (by omega)))
          have hms : (if r < 0 then 0 else 200 - r.toNat) < 200 - y := by
            rcases hr with ⟨rfl, -⟩ | ⟨q, rfl, hq, -⟩
            · rw [if_pos (by decide)]; omega
            · rw [if_neg (by omega)]; omega
          have HMS := Lib.hid hms
          clear hr hmx hms
          go_wp2_with fail
          go_roundw
          case rel => exact ⟨r, rfl, HKN, HB7⟩
          case measure => simp [intOf]; exact HMS.out
end Go.Proofs.YtljjcomedjdpaaaDoor
