/- The walk of SetAsks, part 1. -/
import Derived.Test.YtmcmlplbdepooaaDoorSetB
import Derived.Test.YtmcmlplbdepooaaDoorRow
import Derived.Test.YtmcmlplbdepooaaDoorInts0
import Derived.Deep.WholeRow
import Derived.Laws.Tables
namespace Go.Proofs.YtmcmlplbdepooaaDoor
open Go.RowKit
set_option linter.unusedVariables false
set_option linter.unusedSimpArgs false

def PutPost (lo hi g : Nat) (W : World) (n c : Int) (x : Nat) (ws : List Nat) (e : Ending) (w' : World) : Prop :=
  ∃ (c' : Int) (ws' : List Nat), e = .returned (.bool (!bitB ws x)) ∧ SetIs lo hi g w' n c' ws' ∧ Only lo hi W w' ∧ c ≤ c' ∧ c' ≤ c + 1 ∧ ws'.length = ws.length ∧ ∀ y, bitB ws' y = (bitB ws y || decide (x = y))
theorem sput_any (lo hi g : Nat) (W : World) (n c : Int) (x : Nat) (ws : List Nat) (h : SetIs lo hi g W n c ws) (hx : (x : Int) < n) (hc : 0 ≤ c ∧ c ≤ 1000000) :
    Calls Tryd.prog 21 #[.pointer (some ⟨g, 0, none⟩), .int .i64 x] W (PutPost lo hi g W n c x ws) := by
  rcases Bool.eq_false_or_eq_true (bitB ws x) with hb | hb
  · refine (sput_no lo hi g W n c x ws h (.inr (by rw [Int.toNat_natCast]; exact hb))).mono ?_
    rintro e w' ⟨he, rfl⟩
    refine ⟨c, ws, by rw [hb]; exact he, h, Only.refl _ _ _, by omega, by omega, rfl, fun y => ?_⟩
    by_cases e : x = y
    · subst e; rw [hb]; rfl
    · rw [decide_eq_false e, Bool.or_false]
  · have hl := h.2.1.2.2.1
    refine (sput_walk lo hi g W n c x ws h hx hb hc).mono ?_
    rintro e w' ⟨he, hs, ho⟩
    exact ⟨_, _, by rw [hb]; exact he, hs, ho, by omega, by omega, by rw [List.length_set], fun y => bitB_put ws x y (by omega)⟩

theorem heap_old (W : World) (o : Obj) (i : Nat) (hi : i < W.heap.size) : (W.alloc o).heap[i]? = W.heap[i]? := by
  show (W.heap.push o)[i]? = W.heap[i]?
  rw [Array.getElem?_push, if_neg (by omega)]
theorem mod200 (x : Int) : ∃ q : Nat, (bits .and .i64 x 65535).tmod 200 = q ∧ q < 200 := by
  have h : bits .and .i64 x 65535 = x % 65536 := i64_mask x 16 (by decide)
  have h0 : 0 ≤ x % 65536 := Int.emod_nonneg _ (by decide)
  rw [h, Int.tmod_eq_emod_of_nonneg h0]
  exact ⟨(x % 65536 % 200).toNat, by omega, by omega⟩

/-- An array of bools at block b says what is in it. -/
def ArrIs (b : Nat) (W : World) (ws : List Nat) : Prop :=
  b < W.heap.size ∧ ∀ i, i < 200 → W.cell? ⟨b, i, none⟩ = some (.bool (bitB ws i)) ∧ W.frozen? ⟨b, i, none⟩ = false
theorem ArrIs.put {b : Nat} {W : World} {ws ws' : List Nat} {x : Nat} (h : ArrIs b W ws) (hx : x < 200) (hb : ∀ y, bitB ws' y = (bitB ws y || decide (x = y))) : ArrIs b (W.setCell ⟨b, x, none⟩ (.bool true)) ws' := by
  refine ⟨by rw [size_set]; exact h.1, fun i hi => ?_⟩
  obtain ⟨h1, h2⟩ := h.2 i hi
  refine ⟨?_, by simp [h2]⟩
  rw [hb i]
  by_cases e : x = i
  · subst e
    rw [World.cell?_setCell_same _ _ _ h1, decide_eq_true rfl, Bool.or_true]
  · rw [World.cell?_setCell_other _ _ _ _ (by intro q; injection q with _ q; exact e q), h1, decide_eq_false e, Bool.or_false]

def arrZ : Array Value := Array.replicate 200 (.bool false)
theorem arrInfo : (Tryd.prog.info? 47).map (fun i => (i.zero, i.size)) = some (some (.agg arrZ), 200) := by kernel_rfl
theorem arrBuilt : Tryd.prog.built 47 ((#[] : Array (Nat × Value)).toList) = some arrZ := by kernel_rfl
theorem arrOne : arrZ.all (·.oneCell') = true := by kernel_rfl
theorem arrSize : arrZ.size = 200 := by simp [arrZ]
theorem bitB_none (L y : Nat) : bitB (List.replicate L 0) y = false := by
  unfold bitB
  have : (List.replicate L 0).getD (y / 64) 0 = 0 := by
    simp only [List.getD_eq_getElem?_getD, List.getElem?_replicate]
    split <;> rfl
  rw [this, Nat.zero_testBit]
theorem arrAt (i : Nat) (h : i < 200) : arrZ[i]? = some (.bool false) := by simp [arrZ, h]

theorem ArrIs.keep {b : Nat} {W W' : World} {ws : List Nat} (h : ArrIs b W ws) (hs : W.heap.size ≤ W'.heap.size) (hk : W'.heap[b]? = W.heap[b]?) : ArrIs b W' ws := by
  refine ⟨Nat.lt_of_lt_of_le h.1 hs, fun i hi => ?_⟩
  obtain ⟨h1, h2⟩ := h.2 i hi
  exact ⟨(World.cell?_of_block hk).trans h1, (World.frozen?_of_block hk).trans h2⟩

/-- What the second loop knows: the first number above x that is in it. -/
def Lo2 (ws : List Nat) (a x r : Int) : Prop :=
  -1 ≤ x ∧ x ≤ 199 ∧ (x = 199 ∨ a ≤ x + 1) ∧ ((r = -1 ∧ ∀ y : Nat, x < y → y < 200 → bitB ws y = false) ∨ ∃ y : Nat, r = y ∧ x < y ∧ y < 200 ∧ bitB ws y = true ∧ ∀ z : Nat, x < z → z < y → bitB ws z = false)
theorem Lo2.start (ws : List Nat) (a : Int) : Lo2 ws a 199 (-1) := ⟨by omega, by omega, .inl rfl, .inl ⟨rfl, fun y h1 h2 => by omega⟩⟩
theorem Lo2.yes {ws : List Nat} {a r : Int} {x : Nat} (h : Lo2 ws a x r) (ha : a ≤ x) (hb : bitB ws x = true) : Lo2 ws a ((x : Int) - 1) x := by
  obtain ⟨h1, h2, h3, h4⟩ := h
  exact ⟨by omega, by omega, .inr (by omega), .inr ⟨x, rfl, by omega, by omega, hb, fun z z1 z2 => by omega⟩⟩
theorem Lo2.no {ws : List Nat} {a r : Int} {x : Nat} (h : Lo2 ws a x r) (ha : a ≤ x) (hb : bitB ws x = false) : Lo2 ws a ((x : Int) - 1) r := by
  obtain ⟨h1, h2, h3, h4⟩ := h
  refine ⟨by omega, by omega, .inr (by omega), ?_⟩
  rcases h4 with ⟨e, h4⟩ | ⟨y, e, y1, y2, y3, y4⟩
  · refine .inl ⟨e, fun y q1 q2 => ?_⟩
    by_cases hy : y = x
    · rw [hy]; exact hb
    · exact h4 y (by omega) q2
  · refine .inr ⟨y, e, by omega, y2, y3, fun z z1 z2 => ?_⟩
    by_cases hz : z = x
    · rw [hz]; exact hb
    · exact y4 z (by omega) z2
theorem Lo2.same {ws : List Nat} {a x r r' : Int} (h : Lo2 ws a x r) (hx : ¬ (0 ≤ x ∧ a ≤ x)) (hl : ∀ y, 200 ≤ y → bitB ws y = false)
    (h1 : (200 : Int) ≤ max a 0 → r' = -1) (h2 : max a 0 < (200 : Int) → FirstOf ws (max a 0).toNat r') (hw : ws.length = 4) : r' = r := by
  obtain ⟨x0, x1, x2, x3⟩ := h
  obtain ⟨M, hM⟩ : ∃ M, max a 0 = M := ⟨_, rfl⟩
  have hM0 : 0 ≤ M ∧ a ≤ M ∧ (M = 0 ∨ M = a) := by omega
  rw [hM] at h1 h2
  clear hM
  by_cases hm : M < 200
  · have hf := h2 hm
    obtain ⟨F, hF⟩ : ∃ F : Nat, M.toNat = F := ⟨_, rfl⟩
    rw [hF] at hf
    have hxF : x + 1 = (F : Int) := by clear x3 hf; omega
    clear h1 h2
    rcases x3 with ⟨e, q⟩ | ⟨y, e, y1, y2, y3, y4⟩ <;> rcases hf with ⟨e', q'⟩ | ⟨z, e', z1, z2, z3, z4⟩
    · omega
    · by_cases hz : z < 200
      · rw [q z (by omega) hz] at z3; cases z3
      · rw [hl z (by omega)] at z3; cases z3
    · rw [q' y (by omega) (by omega)] at y3; cases y3
    · by_cases hzy : z < y
      · rw [y4 z (by omega) hzy] at z3; cases z3
      · by_cases hyz : y < z
        · rw [z4 y (by omega) hyz] at y3; cases y3
        · omega
  · rw [h1 (by omega)]
    rcases x3 with ⟨e, q⟩ | ⟨y, e, y1, y2, y3, y4⟩
    · exact e.symm
    · omega

def someB (ws : List Nat) (f : Nat) : Nat → Bool
  | 0 => false
  | k + 1 => someB ws f k || bitB ws (f + k)
theorem some_iff (ws : List Nat) (f m : Nat) : someB ws f m = true ↔ ∃ j, j < m ∧ bitB ws (f + j) = true := by
  induction m with
  | zero => simp [someB]
  | succ m ih =>
    rw [someB, Bool.or_eq_true, ih]
    constructor
    · rintro (⟨j, h, q⟩ | q)
      · exact ⟨j, by omega, q⟩
      · exact ⟨m, by omega, q⟩
    · rintro ⟨j, h, q⟩
      by_cases e : j = m
      · subst e; exact .inr q
      · exact .inl ⟨j, by omega, q⟩
theorem some_same {ws : List Nat} {A J : Nat} {b : Int} {s s' : Bool} (h : SomeR 200 A b ws s') (hs : s = someB ws A J) (hJ : (min ((A : Int) + b) 200 - A).toNat = J) : s' = s := by
  unfold SomeR at h
  rw [Bool.eq_iff_iff, hs, some_iff, h]
  have hd : sendI 200 A b = if 0 ≤ (A : Int) ∧ (A : Int) < 200 ∧ 1 ≤ b then A + min b (200 - A) else A := rfl
  constructor
  · rintro ⟨_, y, y1, y2, y3⟩
    have hlt : (y : Int) - A < J := by
      clear y3 h
      rw [hd] at y2
      split at y2 <;> omega
    exact ⟨y - A, by omega, by rw [show A + (y - A) = y by omega]; exact y3⟩
  · rintro ⟨j, j1, j2⟩
    refine ⟨by omega, A + j, by omega, ?_, j2⟩
    clear j2 h
    rw [hd]
    split <;> omega
theorem whole_same {ws : List Nat} {A J : Nat} {b : Int} {W0 t : Bool} (hW : decide (0 ≤ (A : Int) ∧ 0 ≤ b ∧ b ≤ 200 ∧ (A : Int) ≤ 200 - b) = W0) (ht : t = (W0 && wholeB ws A J)) (hJ : (min ((A : Int) + b) 200 - A).toNat = J) :
    (decide (0 ≤ (A : Int) ∧ 0 ≤ b ∧ b ≤ 200 ∧ (A : Int) ≤ 200 - b) && wholeB ws (A : Int).toNat b.toNat) = t := by
  rw [ht, hW]
  cases W0 with
  | false => rfl
  | true =>
    have := of_decide_eq_true hW
    rw [Int.toNat_natCast, show b.toNat = J by omega]

set_option maxRecDepth 8000 in
set_option maxHeartbeats 4000000 in
theorem walkSetAsks (a0 : Option Addr) (len0 cap0 : Nat) (z0 : List Int) (a1 : Int) (a2 : Int) (w : World) (w0 : IsRow .i64 w a0 len0 cap0 z0) (w1 : (Lit.int .i64 a1).wf = true) (w2 : (Lit.int .i64 a2).wf = true) (ht : TzTab w) :
    Calls Tryd.prog 8 #[.slice a0 len0 cap0, .int .i64 a1, .int .i64 a2] w fun e w' => e = .returned (.bool true) ∧ Below w.heap.size w w' := by
  have T := Lib.hid ht; clear ht
  have HI := Lib.hid w0.ints
  clear w0
  generalize z0.take len0 = zs at *
  obtain ⟨zv, zi⟩ := zero_of_info arrInfo
  have zb := fun W : World => run_build (P := Tryd.prog) W 47 #[] arrZ arrBuilt
  have zs1 := fun W : World => run_storeAt_new (P := Tryd.prog) W 47 arrZ arrZ (by rw [arrSize]; exact zi) rfl arrOne
  have zs2 := fun W : World => run_storeCells_new (P := Tryd.prog) W 47 arrZ arrZ (by rw [arrSize]; exact zi) rfl arrOne
  have hZs := arrSize
  have HZ := Lib.hid arrAt
  generalize arrZ = Z at *
  go_enter Tryd.func8, Tryd.ntmps8
  go_wp2_with fail
  refine (snew_any 200 200 _ (by decide)).mono ?_
  rintro e v1 ⟨g, rfl, hs, hb1⟩
  have hrep : List.replicate (((200 : Int) + 63) / 64).toNat 0 = [0, 0, 0, 0] := by decide
  rw [hrep] at hs
  have HS := Lib.hid hs; clear hs hrep
  obtain ⟨m, hm1, hm2, hm3⟩ : ∃ m : Nat, m ≤ len0 ∧ m ≤ 60 ∧ (m < len0 → m = 60) := ⟨min len0 60, by omega, by omega, by omega⟩
  go_wp2_with fail
  have HA0 : Hid (ArrIs v1.heap.size (v1.alloc (.cells Z 47)) [0, 0, 0, 0]) := Lib.hid ⟨by simp, fun i hi => by
    have h0 : bitB [0, 0, 0, 0] i = false := bitB_none 4 i
    rw [h0]
    exact ⟨by simp [HZ.out i hi], by simp⟩⟩
  have HS0 : Hid (SetIs w.heap.size v1.heap.size g (v1.alloc (.cells Z 47)) 200 0 [0, 0, 0, 0]) := Lib.hid (HS.out.keep (by simp) (fun i _ hi => heap_old _ _ i hi))
  have hb2 := alc hb1 (.cells Z 47)
  have hv : w.heap.size ≤ v1.heap.size := hb1.size
  obtain ⟨vs, hvs⟩ : ∃ vs, v1.heap.size = vs := ⟨_, rfl⟩
  rw [hvs] at HA0 HS0 hv ⊢
  go_loopw [9] (fun v9 wr => ∃ (k : Nat) (c : Int) (ws : List Nat), k ≤ m ∧ v9 = .int .i64 k ∧ 0 ≤ c ∧ c ≤ k ∧ Hid (SetIs w.heap.size vs g wr 200 c ws) ∧ Hid (ArrIs vs wr ws) ∧ Hid (ws.length = 4 ∧ ∀ y, 200 ≤ y → bitB ws y = false) ∧ Below w.heap.size w wr) (fun i _ => m - (intOf i).toNat)
  case atStart => exact ⟨0, 0, _, by omega, rfl, by omega, by omega, HS0, HA0, Lib.hid ⟨rfl, fun y _ => bitB_none 4 y⟩, hb2⟩
  case round =>
    obtain ⟨k, c, ws, hk, rfl, hc0, hc1, HS, HA, HL, hbel⟩ := hrel
    have hbs := hbel.size
    by_cases hlt : k < m
    · obtain ⟨_, hin⟩ := HI.out.below hbel
      rcases hin with h0 | ⟨b, off, rfl, hbl, hmx, hc⟩
      · exfalso; omega
      · have hck := hc k (by omega)
        clear hc
        generalize zs.getD k 0 = x at *
        have l1 : (k : Int) < len0 := by omega
        have l2 : (k : Int) < 60 := by omega
        obtain ⟨q, hq, hq2⟩ := mod200 x
        have q0 : (0 : Int) ≤ (q : Int) := by omega
        have q1 : (q : Int) < 200 := by omega
        have q2 : (q : Int).toNat = q := Int.toNat_natCast q
        go_wp2_with fail
        refine (sput_any _ _ _ _ _ _ q _ HS.out (by omega) (by omega)).mono ?_
        rintro e v2 ⟨c', ws', rfl, hs2, ho2, e1, e2, e3, e4⟩
        have HS2 := Lib.hid hs2; clear hs2
        have HA2 := Lib.hid (HA.out.keep (Nat.le_of_eq ho2.2.1.symm) (ho2.2.2 vs (Nat.le_refl _)))
        have HB := Lib.hid e4; clear e4
        have hbel2 := below_only hbel ho2 (Nat.le_refl _)
        obtain ⟨k1, k2⟩ := HA2.out.2 q hq2
        go_wp2_with fail
        go_roundw
        case rel =>
          refine ⟨k + 1, c', ws', by omega, by go_num, by omega, by omega, Lib.hid (HS2.out.keep (by rw [size_set]; exact Nat.le_refl _) (fun i h1 h2 => heap_other _ _ _ i (by intro e; simp at e; omega))), Lib.hid (HA2.out.put hq2 HB.out), Lib.hid ⟨by rw [e3]; exact HL.out.1, fun y hy => by rw [HB.out, HL.out.2 y hy, decide_eq_false (by omega)]; rfl⟩, hbel2.setCell (by omega) _⟩
        case measure => simp [intOf]; omega
    · obtain ⟨lw, hl⟩ := HL.out
      have HLW := Lib.hid lw
      have HLB := Lib.hid hl
      clear lw hl
      have e255 := and255 a1
      have e127 := and127 a2
      have s0 : 0 ≤ a1 % 256 := Int.emod_nonneg _ (by decide)
      have s1 : a1 % 256 < 256 := Int.emod_lt_of_pos _ (by decide)
      have s2 : 0 ≤ a2 % 128 := Int.emod_nonneg _ (by decide)
      have s3 : a2 % 128 < 128 := Int.emod_lt_of_pos _ (by decide)
      generalize a1 % 256 = p at *
      generalize a2 % 128 = q at *
      have hend : ¬ (k : Int) < len0 ∨ ((k : Int) < len0 ∧ ¬ (k : Int) < 60) := by omega
      obtain ⟨a, ha⟩ : ∃ a, p - 20 = a := ⟨_, rfl⟩
      obtain ⟨b, hb⟩ : ∃ b, q - 10 = b := ⟨_, rfl⟩
      rcases hend with hend | ⟨hend1, hend⟩
      all_goals
        go_wp2_with fail
        clear e255 e127
        go_loop [11, 14] (fun v11 v14 => ∃ x r : Int, v11 = .int .i64 r ∧ v14 = .int .i64 x ∧ Hid (Lo2 ws a x r) ∧ -1 ≤ x ∧ x ≤ 199) (fun _ v14 => (intOf v14 + 1).toNat)
        case atStart => exact ⟨199, -1, rfl, rfl, Lib.hid (Lo2.start _ _), by omega, by omega⟩
        case round =>
          obtain ⟨x, r, rfl, rfl, HX, x0, x1⟩ := hrel
          by_cases hx : 0 ≤ x ∧ a ≤ x
          · obtain ⟨hx0, hxa⟩ := hx
            obtain ⟨X, rfl⟩ : ∃ X : Nat, x = X := ⟨x.toNat, by omega⟩
            obtain ⟨k1, k2⟩ := HA.out.2 X (by omega)
            have X1 : (X : Int) < 200 := by omega
            have X2 : (X : Int).toNat = X := Int.toNat_natCast X
            rcases Bool.eq_false_or_eq_true (bitB ws X) with hb | hb
            · have HY := Lib.hid (Lo2.yes HX.out hxa hb)
              rw [hb] at k1
              clear hb
              go_wp2_with fail
              go_round
              case rel => exact ⟨(X : Int) - 1, X, rfl, by go_num, HY, by omega, by omega⟩
              case measure => simp [intOf] <;> omega
            · have HY := Lib.hid (Lo2.no HX.out hxa hb)
              rw [hb] at k1
              clear hb
              go_wp2_with fail
              go_round
              case rel => exact ⟨(X : Int) - 1, r, rfl, by go_num, HY, by omega, by omega⟩
              case measure => simp [intOf] <;> omega
          · have HE := Lib.hid hx
            have hx2 : ¬ 0 ≤ x ∨ (0 ≤ x ∧ ¬ a ≤ x) := by omega
            clear hx
            obtain ⟨W0, hW0⟩ : ∃ W0, decide (0 ≤ a ∧ 0 ≤ b ∧ b ≤ 200 ∧ a ≤ 200 - b) = W0 := ⟨_, rfl⟩
            have HW0 := Lib.hid hW0; clear hW0
            rcases hx2 with hx2 | ⟨hx3, hx2⟩
            all_goals
              go_upto_region 14 with (fail)
              go_cut [15, 16] (fun u v wx => u = .bool false ∧ v = .bool W0 ∧ wr = wx)
              case first =>
                have hw : (a < 0 ∧ W0 = false) ∨ (0 ≤ a ∧ b < 0 ∧ W0 = false) ∨ (0 ≤ a ∧ 0 ≤ b ∧ 200 < a ∧ W0 = false) ∨ (0 ≤ a ∧ 0 ≤ b ∧ a ≤ 200 ∧ 200 - a < b ∧ W0 = false) ∨ (0 ≤ a ∧ 0 ≤ b ∧ a ≤ 200 ∧ b ≤ 200 - a ∧ W0 = true) := by
                  have h := HW0.out
                  by_cases q1 : a < 0
                  · exact .inl ⟨q1, by rw [← h]; exact decide_eq_false (by omega)⟩
                  · by_cases q2 : b < 0
                    · exact .inr (.inl ⟨by omega, q2, by rw [← h]; exact decide_eq_false (by omega)⟩)
                    · by_cases q3 : 200 < a
                      · exact .inr (.inr (.inl ⟨by omega, by omega, q3, by rw [← h]; exact decide_eq_false (by omega)⟩))
                      · by_cases q4 : 200 - a < b
                        · exact .inr (.inr (.inr (.inl ⟨by omega, by omega, by omega, q4, by rw [← h]; exact decide_eq_false (by omega)⟩)))
                        · exact .inr (.inr (.inr (.inr ⟨by omega, by omega, by omega, by omega, by rw [← h]; exact decide_eq_true (by omega)⟩)))
                clear hx2 HE
                rcases hw with ⟨q1, rfl⟩ | ⟨q1, q2, rfl⟩ | ⟨q1, q2, q3, rfl⟩ | ⟨q1, q2, q3, q4, rfl⟩ | ⟨q1, q2, q3, q4, rfl⟩
                all_goals
                  go_wp2_with fail
                  go_meet
                  exact ⟨rfl, by first | rfl | exact congrArg Value.bool (decide_eq_false (by omega)) | exact congrArg Value.bool (decide_eq_true (by omega)), rfl⟩
              case rest =>
                obtain ⟨rfl, rfl, rfl⟩ := hcut
                clear hx2
                rcases Int.lt_or_le a 0 with ha0 | ha0
                · as_aux_lemma =>
                    obtain rfl : W0 = false := by rw [← HW0.out]; exact decide_eq_false (by omega)
                    go_wp2_with fail
                    go_loop [15, 16, 17] (fun v15 v16 v17 => v15 = .bool false ∧ v16 = .bool false ∧ v17 = .int .i64 0) (fun _ _ _ => 0)
                    case atStart => exact ⟨rfl, rfl, rfl⟩
                    case round =>
                      obtain ⟨rfl, rfl, rfl⟩ := hrel
                      go_wp2_with fail
                      refine (s02awake_any _ (T.out.later hbel)).mono ?_
                      rintro e v3 ⟨rfl, hb3⟩
                      have hbel3 := hbel.trans (hb3.mono hbel.size)
                      have HS3 := Lib.hid (HS.out.keep hb3.size (fun i _ hi => hb3.block i (by have := HS.out.1.2.2; omega)))
                      go_wp2_with fail
                      refine (sfirst_any _ _ _ _ _ _ _ _ HS3.out (T.out.later hbel3)).mono ?_
                      rintro e w' ⟨rfl, r', rfl, f1, f2⟩
                      obtain rfl : r' = r := Lo2.same HX.out HE.out HLB.out f1 f2 HLW.out
                      clear f1 f2
                      go_wp2_with fail
                      refine (ssome_any _ _ _ _ _ _ _ _ _ HS3.out (T.out.later hbel3)).mono ?_
                      rintro e w' ⟨rfl, s, rfl, hsr⟩
                      obtain rfl : s = false := by
                        cases s with
                        | false => rfl
                        | true => have := (hsr.1 rfl).1; omega
                      clear hsr
                      go_wp2_with fail
                      refine (swhole_is false _ _ _ _ _ _ _ _ _ HS3.out (by rw [decide_eq_false (by omega)]; rfl)).mono ?_
                      rintro e w' ⟨rfl, rfl⟩
                      go_wp2_with fail
                      refine (nfirst_any _).mono ?_
                      rintro e w' ⟨rfl, rfl⟩
                      go_wp2_with fail
                      refine (ncount_any _).mono ?_
                      rintro e w' ⟨rfl, rfl⟩
                      go_wp2_with fail
                      refine (nroom_any _).mono ?_
                      rintro e w' ⟨rfl, rfl⟩
                      go_wp2_with fail
                      refine (nlist_any _).mono ?_
                      rintro e w' ⟨rfl, rfl⟩
                      go_wp2_with fail
                      refine (nhas_any _).mono ?_
                      rintro e w' ⟨rfl, rfl⟩
                      go_wp2_with fail
                      refine (nput_any _).mono ?_
                      rintro e w' ⟨rfl, rfl⟩
                      go_wp2_with fail
                      refine (ntwin_any _).mono ?_
                      rintro e w' ⟨rfl, rfl⟩
                      go_wp2
                      go_ret
                      exact ⟨rfl, hbel3⟩
                · as_aux_lemma =>
                    obtain ⟨A, rfl⟩ : ∃ A : Nat, a = A := ⟨a.toNat, by omega⟩
                    obtain ⟨J, hJ⟩ : ∃ J : Nat, (min ((A : Int) + b) 200 - A).toNat = J := ⟨_, rfl⟩
                    have HJ := Lib.hid hJ
                    have hJ1 : ∀ j : Nat, j < J → (A : Int) + j < A + b ∧ (A : Int) + j < 200 := by intro j h; omega
                    have hJ2 : (A : Int) + b ≤ A + J ∨ (200 : Int) ≤ A + J := by omega
                    clear hJ
                    have HJ1 := Lib.hid hJ1; have HJ2 := Lib.hid hJ2
                    clear hJ1 hJ2
                    go_wp2_with fail
                    go_loop [15, 16, 17] (fun v15 v16 v17 => ∃ (j : Nat) (s t : Bool), j ≤ J ∧ v15 = .bool s ∧ v16 = .bool t ∧ v17 = .int .i64 ((A : Int) + j) ∧ Hid (s = someB ws A j ∧ t = (W0 && wholeB ws A j))) (fun _ _ v17 => ((A : Int) + J - intOf v17).toNat)
                    case atStart => exact ⟨0, false, W0, by omega, rfl, rfl, congrArg (Value.int .i64) (by omega), Lib.hid ⟨rfl, by simp [wholeB]⟩⟩
                    case round =>
                      obtain ⟨j, s, t, hj, rfl, rfl, rfl, HR⟩ := hrel
                      have hm : (A : Int) + b ≤ 200 ∨ 200 < (A : Int) + b := by omega
                      by_cases hlt : j < J
                      · obtain ⟨l1, l2⟩ := HJ1.out j hlt
                        obtain ⟨k1, k2⟩ := HA.out.2 (A + j) (by omega)
                        have X2 : ((A : Int) + (j : Int)).toNat = A + j := by omega
                        have X0 : (0 : Int) ≤ (A : Int) + (j : Int) := by omega
                        obtain ⟨B, hB⟩ : ∃ B, bitB ws (A + j) = B := ⟨_, rfl⟩
                        rw [hB] at k1
                        have HB := Lib.hid hB; clear hB
                        rcases hm with hm | hm <;> cases s <;> cases t
                        all_goals
                          go_wp2_with fail
                          go_round
                          case rel =>
                            refine ⟨j + 1, _, _, by omega, rfl, rfl, by go_num, Lib.hid ⟨?_, ?_⟩⟩
                            · rw [someB, ← HR.out.1, HB.out]; simp
                            · rw [wholeB, ← Bool.and_assoc, ← HR.out.2, HB.out]; simp
                          case measure => simp [intOf] <;> omega
                      · obtain rfl : j = J := by omega
                        have hl : ((A : Int) + b ≤ 200 ∧ ¬ (A : Int) + j < A + b) ∨ (200 < (A : Int) + b ∧ ¬ (A : Int) + j < 200) := by have := HJ2.out; omega
                        clear hm
                        rcases hl with ⟨l0, l1⟩ | ⟨l0, l1⟩
                        all_goals
                          go_wp2_with fail
                          refine (s02awake_any _ (T.out.later hbel)).mono ?_
                          rintro e v3 ⟨rfl, hb3⟩
                          have hbel3 := hbel.trans (hb3.mono hbel.size)
                          have HS3 := Lib.hid (HS.out.keep hb3.size (fun i _ hi => hb3.block i (by have := HS.out.1.2.2; omega)))
                          go_wp2_with fail
                          refine (sfirst_any _ _ _ _ _ _ _ _ HS3.out (T.out.later hbel3)).mono ?_
                          rintro e w' ⟨rfl, r', rfl, f1, f2⟩
                          obtain rfl : r' = r := Lo2.same HX.out HE.out HLB.out f1 f2 HLW.out
                          clear f1 f2
                          go_wp2_with fail
                          refine (ssome_any _ _ _ _ _ _ _ _ _ HS3.out (T.out.later hbel3)).mono ?_
                          rintro e w' ⟨rfl, s', rfl, hsr⟩
                          obtain rfl : s' = s := some_same hsr HR.out.1 HJ.out
                          clear hsr
                          go_wp2_with fail
                          refine (swhole_is t _ _ _ _ _ _ _ _ _ HS3.out (whole_same HW0.out HR.out.2 HJ.out)).mono ?_
                          rintro e w' ⟨rfl, rfl⟩
                          go_wp2_with fail
                          refine (nfirst_any _).mono ?_
                          rintro e w' ⟨rfl, rfl⟩
                          go_wp2_with fail
                          refine (ncount_any _).mono ?_
                          rintro e w' ⟨rfl, rfl⟩
                          go_wp2_with fail
                          refine (nroom_any _).mono ?_
                          rintro e w' ⟨rfl, rfl⟩
                          go_wp2_with fail
                          refine (nlist_any _).mono ?_
                          rintro e w' ⟨rfl, rfl⟩
                          go_wp2_with fail
                          refine (nhas_any _).mono ?_
                          rintro e w' ⟨rfl, rfl⟩
                          go_wp2_with fail
                          refine (nput_any _).mono ?_
                          rintro e w' ⟨rfl, rfl⟩
                          go_wp2_with fail
                          refine (ntwin_any _).mono ?_
                          rintro e w' ⟨rfl, rfl⟩
                          go_wp2
                          go_ret
                          exact ⟨rfl, hbel3⟩
end Go.Proofs.YtmcmlplbdepooaaDoor
