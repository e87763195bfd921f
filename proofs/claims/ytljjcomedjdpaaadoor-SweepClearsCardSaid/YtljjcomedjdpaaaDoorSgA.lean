/- SweepClears: painted granules, meets, Put. -/
import Derived.Test.YtljjcomedjdpaaaDoorSwE
import Derived.Deep.RegionHeld3
import Derived.Deep.DeepCutAuto
namespace Go.Proofs.YtljjcomedjdpaaaDoor
set_option maxRecDepth 100000
open Go.RowKit Go.ChangeMaps Go.MapKept
set_option linter.unusedVariables false
set_option linter.unusedSimpArgs false

theorem spGr {b l : Int} (h : mayB b l = true) : spF b l 16 = b / 16 ∧ spN b l 16 = (b + l - 1) / 16 - b / 16 + 1 := by
  have hm := mayB_iff.1 h
  rw [spF, spN, if_pos h, if_pos h, downI, if_neg (by omega), partsI, if_neg (by omega)]
  omega
/-- Does a capability meet a painted granule? -/
def PM (PT : Nat → Bool) (x : CapV) : Bool := x.v && anyF (fun y => (decide (x.b / 16 ≤ (y : Int)) && decide ((y : Int) ≤ (x.b + x.l - 1) / 16)) && PT y) 256
theorem PM_yes {PT : Nat → Bool} {x : CapV} (hv : x.v = true) (h9 : Cap9 x) (y : Nat) (h1 : x.b / 16 ≤ (y : Int)) (h2 : (y : Int) ≤ (x.b + x.l - 1) / 16) (hp : PT y = true) : PM PT x = true := by
  unfold PM
  rw [hv, Bool.true_and]
  obtain ⟨q1, q2, q3, q4, q5, -⟩ := h9
  exact anyF_iff.2 ⟨y, by omega, by rw [decide_eq_true h1, decide_eq_true h2, hp]; rfl⟩
theorem PM_get {PT : Nat → Bool} {x : CapV} (h : PM PT x = true) : x.v = true ∧ ∃ y : Nat, x.b / 16 ≤ (y : Int) ∧ (y : Int) ≤ (x.b + x.l - 1) / 16 ∧ PT y = true := by
  unfold PM at h
  rw [Bool.and_eq_true] at h
  obtain ⟨y, -, hy⟩ := anyF_iff.1 h.2
  simp only [Bool.and_eq_true, decide_eq_true_eq] at hy
  exact ⟨h.1, y, hy.1.1, hy.1.2, hy.2⟩
theorem PM_no {PT : Nat → Bool} {x : CapV} (h : ∀ y : Nat, x.b / 16 ≤ (y : Int) → (y : Int) ≤ (x.b + x.l - 1) / 16 → PT y = false) : PM PT x = false := by
  cases e : PM PT x with
  | false => rfl
  | true => obtain ⟨-, y, h1, h2, h3⟩ := PM_get e; rw [h y h1 h2] at h3; cases h3
theorem PM_none {PT : Nat → Bool} {x : CapV} (h : x.v = false) : PM PT x = false := by
  unfold PM
  rw [h, Bool.false_and]
theorem PM_some {PT : Nat → Bool} {x : CapV} {ws : List Nat} (hv : x.v = true) (h9 : Cap9 x) (hb : ∀ y, bitB ws y = PT y) : SomeR 16384 (spF x.b x.l 16) (spN x.b x.l 16) ws (PM PT x) := by
  obtain ⟨e1, e2⟩ := spGr h9.may
  have h9' := h9
  obtain ⟨q1, q2, q3, q4, q5, -⟩ := h9'
  rw [e1, e2]
  cases e : PM PT x with
  | true =>
    obtain ⟨-, y, h1, h2, h3⟩ := PM_get e
    exact some_true y (by omega) h1 (by omega) (by omega) (by omega) ((hb y).trans h3)
  | false =>
    refine some_false (fun y h1 h2 => ?_)
    rw [hb y]
    cases e2 : PT y with
    | false => rfl
    | true => rw [PM_yes hv h9 y h1 (by omega) e2] at e; cases e
/-- A row of bools. -/
def BRow (g k : Nat) (W : World) (p : Nat → Bool) : Prop := g < W.heap.size ∧ ∀ i, i < k → W.cell? ⟨g, i, none⟩ = some (.bool (p i)) ∧ W.frozen? ⟨g, i, none⟩ = false
theorem BRow.keep {g k : Nat} {W W' : World} {p : Nat → Bool} (h : BRow g k W p) (hs : W.heap.size ≤ W'.heap.size) (hk : W'.heap[g]? = W.heap[g]?) : BRow g k W' p :=
  ⟨Nat.lt_of_lt_of_le h.1 hs, fun i hi => ⟨(World.cell?_of_block hk).trans (h.2 i hi).1, (World.frozen?_of_block hk).trans (h.2 i hi).2⟩⟩
theorem BRow.below {g k : Nat} {W W' : World} {p : Nat → Bool} (h : BRow g k W p) (hb : Below W.heap.size W W') : BRow g k W' p := h.keep hb.size (hb.block g h.1)
set_option maxHeartbeats 3200000 in
theorem smeets (x : CapV) (PT : Nat → Bool) (gp : Nat) (W : World) (r : Bool) (hx : x.v = true → Cap9 x) (hx0 : x.v = false → x = cap0) (hrow : BRow gp 256 W PT) (hr : PM PT x = r) :
    Calls Tryd.prog 12 #[.agg #[.int .i64 x.b, .int .i64 x.l, .int .i64 x.c, .int .i64 x.p, .int .i64 x.t, .bool x.v], .slice (some ⟨gp, 0, none⟩) 256 256] W fun e w' => e = .returned (.bool r) ∧ Below W.heap.size W w' := by
  have HX := Lib.hid hx
  have HX0 := Lib.hid hx0
  have HROW := Lib.hid hrow
  have HR := Lib.hid hr
  obtain ⟨b, l, c, p, t, v⟩ := x
  clear hx hx0 hrow hr
  go_enter Tryd.func12, Tryd.ntmps12
  go_upto_region 1 with (fail)
  have hal := alc0 W (.cells #[.int .i64 b, .int .i64 l, .int .i64 c, .int .i64 p, .int .i64 t, .bool v] 37)
  have HC := Lib.hid (CapAt.new W b l c p t v 37)
  have HB := Lib.hid hal
  have HRW := Lib.hid (HROW.out.below hal)
  clear hal HROW
  generalize hw1 : W.alloc (.cells #[.int .i64 b, .int .i64 l, .int .i64 c, .int .i64 p, .int .i64 t, .bool v] 37) = w1 at *
  clear hw1
  obtain ⟨x2, hx2⟩ : ∃ x2, W.heap.size = x2 := ⟨_, rfl⟩
  rw [hx2] at HC
  try rw [hx2]
  clear hx2
  obtain ⟨-, z0, z1, z2, z3, z4, z5, -⟩ := HC.out
  cases v with
  | false =>
    obtain rfl : false = r := by rw [← HR.out]; exact (PM_none rfl).symm
    have h0 := HX0.out rfl
    unfold cap0 at h0
    injection h0 with h1 h2 h3 h4 h5 _
    subst h1 h2 h3 h4 h5
    clear HX HX0 HR
    go_wp2_with fail
    go_loopw [5] (fun v5 wr => v5 = .int .i64 0 ∧ w1 = wr) (fun _ _ => 0)
    case atStart => exact ⟨rfl, rfl⟩
    case round =>
      obtain ⟨rfl, rfl⟩ := hrel
      go_wp2_with fail
      go_ret
      exact ⟨rfl, HB.out⟩
  | true =>
    have h9 := HX.out rfl
    have H9 := Lib.hid h9
    obtain ⟨q1, q2, q3, q4, q5, -⟩ := h9
    replace q1 : 0 ≤ b := q1
    replace q2 : b ≤ 2047 := q2
    replace q3 : 1 ≤ l := q3
    replace q4 : l ≤ 256 := q4
    replace q5 : l ≤ 2048 - b := q5
    obtain ⟨F, hF⟩ : ∃ F : Nat, b / 16 = (F : Int) := ⟨(b / 16).toNat, by omega⟩
    obtain ⟨E, hE⟩ : ∃ E : Nat, (b + l - 1) / 16 = (E : Int) := ⟨((b + l - 1) / 16).toNat, by omega⟩
    have hFE : F ≤ E := by omega
    have hE2 : E < 128 := by omega
    have t1 : b.tdiv 16 = (F : Int) := by rw [Int.tdiv_eq_ediv_of_nonneg (by omega)]; exact hF
    have t2 : (b + l - 1).tdiv 16 = (E : Int) := by rw [Int.tdiv_eq_ediv_of_nonneg (by omega)]; exact hE
    have k1 : IntKind.i64.wrap (b + l) = b + l := IntWalk.i64_in _ (by omega)
    have k2 : IntKind.i64.wrap (b + l - 1) = b + l - 1 := IntWalk.i64_in _ (by omega)
    have HFE := Lib.hid (And.intro hF hE)
    clear q1 q2 q3 q4 q5 HX HX0
    go_wp2_with fail
    go_loopw [5] (fun v5 wr => ∃ y : Nat, v5 = .int .i64 y ∧ F ≤ y ∧ y ≤ E + 1 ∧ Hid (∀ z, F ≤ z → z < y → PT z = false) ∧ w1 = wr) (fun v5 _ => E + 1 - (intOf v5).toNat)
    case atStart => exact ⟨F, by go_num, Nat.le_refl _, by omega, Lib.hid (fun z h1 h2 => by omega), rfl⟩
    case round =>
      obtain ⟨y, rfl, hy1, hy2, HN, rfl⟩ := hrel
      by_cases hle : y ≤ E
      · have hleI : (y : Int) ≤ (E : Int) := by omega
        have hy3 : y < 256 := by omega
        have hyI : (y : Int) < 256 := by omega
        have hy0 : (0 : Int) ≤ (y : Int) := by omega
        have HLE := Lib.hid (And.intro hle hy1)
        obtain ⟨c9, f9⟩ := HRW.out.2 y hy3
        cases hp : PT y with
        | true =>
          rw [hp] at c9
          obtain rfl : true = r := by rw [← HR.out]; exact (PM_yes (x := ⟨b, l, c, p, t, true⟩) rfl H9.out y (by show b / 16 ≤ _; rw [HFE.out.1]; omega) (by show _ ≤ (b + l - 1) / 16; rw [HFE.out.2]; omega) hp).symm
          clear hp hle hy1 hy2
          go_wp2_with fail
          go_ret
          exact ⟨rfl, HB.out⟩
        | false =>
          rw [hp] at c9
          have HN2 : Hid (∀ z, F ≤ z → z < y + 1 → PT z = false) := Lib.hid (fun z h1 h2 => by
            by_cases e : z = y
            · rw [e]; exact hp
            · exact HN.out z h1 (by omega))
          clear hp hle hy1 hy2
          go_wp2_with fail
          go_roundw
          case rel => exact ⟨y + 1, by go_num, by have := HLE.out; omega, by have := HLE.out; omega, HN2, trivial⟩
          case measure => simp [intOf]; have := HLE.out; omega
      · obtain rfl : y = E + 1 := by omega
        have hleI : ¬ (((E + 1 : Nat)) : Int) ≤ (E : Int) := by omega
        obtain rfl : false = r := by
          rw [← HR.out]
          refine (PM_no (fun z h1 h2 => ?_)).symm
          replace h1 : b / 16 ≤ (z : Int) := h1
          replace h2 : (z : Int) ≤ (b + l - 1) / 16 := h2
          rw [HFE.out.1] at h1
          rw [HFE.out.2] at h2
          exact HN.out z (by omega) (by omega)
        clear hle
        obtain ⟨y, hy⟩ : ∃ y, E + 1 = y := ⟨_, rfl⟩
        rw [hy] at hleI ⊢
        clear hy HN hy1 hy2
        go_wp2_with fail
        go_ret
        exact ⟨rfl, HB.out⟩
def inS (b l : Int) (y : Nat) : Bool := decide (1 ≤ l ∧ b / 16 ≤ (y : Int) ∧ (y : Int) ≤ (b + l - 1) / 16)
/-- Painting a stretch within the first bytes. -/
theorem pput9 (lo hi g p : Nat) (W : World) (c : Int) (ws : List Nat) (PT : Nat → Bool) (b l : Int) (h : PtIs lo hi g p W c ws) (hb : ∀ y, bitB ws y = PT y) (hl : ws.length = 256) (h0 : 0 ≤ b ∧ b ≤ 2047 ∧ 0 ≤ l ∧ l ≤ 127) (hc : 0 ≤ c ∧ c ≤ 100) :
    Calls Tryd.prog 8 #[.pointer (some ⟨p, 0, none⟩), .agg #[.int .i64 b, .int .i64 l]] W fun e w' => ∃ v c' ws', e = .returned (.int .i64 v) ∧ PtIs lo hi g p w' c' ws' ∧ (∀ y, bitB ws' y = (PT y || inS b l y)) ∧ ws'.length = 256 ∧ 0 ≤ c' ∧ c' ≤ c + 9 ∧ Below lo W w' ∧ (∀ i, p < i → i < W.heap.size → w'.heap[i]? = W.heap[i]?) ∧ W.heap.size ≤ w'.heap.size := by
  obtain ⟨ws', v, hp⟩ : ∃ ws' v, putN ws (spF b l 16).toNat (sJ 16384 (spF b l 16) (spN b l 16)) = (ws', v) := ⟨_, _, rfl⟩
  have hbd := putN_bd ws (spF b l 16).toNat (sJ 16384 (spF b l 16) (spN b l 16))
  have hln := putN_len ws (spF b l 16).toNat (sJ 16384 (spF b l 16) (spN b l 16))
  rw [hp] at hbd hln
  have hj : sJ 16384 (spF b l 16) (spN b l 16) ≤ 9 ∧ (spF b l 16).toNat + sJ 16384 (spF b l 16) (spN b l 16) ≤ 16384 ∧ ∀ y : Nat, decide ((spF b l 16).toNat ≤ y ∧ y < (spF b l 16).toNat + sJ 16384 (spF b l 16) (spN b l 16)) = inS b l y := by
    by_cases h1 : 1 ≤ l
    · obtain ⟨e1, e2⟩ := spGr (b := b) (l := l) (mayB_iff.2 (by omega))
      rw [e1, e2]
      have e3 : sJ 16384 (b / 16) ((b + l - 1) / 16 - b / 16 + 1) = ((b + l - 1) / 16 - b / 16 + 1).toNat := by
        unfold sJ sendI
        split <;> omega
      rw [e3]
      refine ⟨by omega, by omega, fun y => ?_⟩
      unfold inS
      rw [decide_eq_decide]
      omega
    · obtain ⟨e1, e2⟩ := sp_no (b := b) (l := l) (s := 16) (mayB_false.2 (by omega))
      rw [e1, e2]
      have e3 : sJ 16384 0 0 = 0 := by decide
      rw [e3]
      refine ⟨by omega, by omega, fun y => ?_⟩
      unfold inS
      rw [decide_eq_decide]
      omega
  refine (ptput b l v (c + v) ws' h hp rfl (by omega)).mono ?_
  rintro e w' ⟨rfl, hp5, hl5, hh5, hs5⟩
  refine ⟨v, c + v, ws', rfl, hp5, fun y => ?_, by rw [← hl]; exact hln, by omega, by omega, hl5, hh5, hs5⟩
  have := putN_bits ws (spF b l 16).toNat (sJ 16384 (spF b l 16) (spN b l 16)) y (by omega)
  rw [hp] at this
  rw [← hb y, ← hj.2.2 y]
  exact this
end Go.Proofs.YtljjcomedjdpaaaDoor
