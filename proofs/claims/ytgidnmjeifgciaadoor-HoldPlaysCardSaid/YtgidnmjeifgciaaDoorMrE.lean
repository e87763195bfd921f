/- MrD, MrE in one text: a claim holds at most 60 files. -/
import Derived.Test.YtgidnmjeifgciaaDoorMrB
namespace Go.Proofs.YtgidnmjeifgciaaDoor
set_option maxRecDepth 100000
open Go.RowKit Go.ChangeMaps Go.MapKept
set_option linter.unusedVariables false
set_option linter.unusedSimpArgs false

theorem RS.eq {r r' : RS} (ho : r.o = r'.o) (hb : r.b = r'.b) (ht : r.t = r'.t) (hk : r.k = r'.k) (hv : r.v = r'.v) : r = r' := by
  cases r; cases r'
  simp only at ho hb ht hk hv
  subst ho hb ht hk hv
  rfl
def setT (r : RS) (i : Nat) (v : Int) : RS := { r with t := fun g => if g = i then v else r.t g }
def setB (r : RS) (i : Nat) (v : Nat) : RS := { r with b := fun g => if g = i then v else r.b g }
def setK (r : RS) (i : Nat) (v : Bool) : RS := { r with k := fun g => if g = i then v else r.k g }
def setV (r : RS) (i : Nat) (f : Nat → Value) : RS := { r with v := fun x => if 6 * i ≤ x ∧ x < 6 * i + 6 then f x else r.v x }
theorem RAt.setT {A i : Nat} {W : World} {r : RS} (h : RAt A W r) (hi : i < 128) (v : Int) : RAt A (W.setCell ⟨A, 2056 + i, none⟩ (.int .i64 v)) (setT r i v) := by
  refine h.set_ (by omega) ?_ (fun n hn hne => ?_)
  · rw [RS.ct _ hi]
    show Value.int .i64 (if i = i then v else r.t i) = _
    rw [if_pos rfl]
  · unfold RS.c
    by_cases a1 : n < 8
    · rw [if_pos a1, if_pos a1]; rfl
    · by_cases a2 : n < 2056
      · rw [if_neg a1, if_neg a1, if_pos a2, if_pos a2]; rfl
      · by_cases a3 : n < 2184
        · rw [if_neg a1, if_neg a1, if_neg a2, if_neg a2, if_pos a3, if_pos a3]
          show Value.int .i64 (if n - 2056 = i then v else r.t (n - 2056)) = _
          rw [if_neg (by omega)]
        · rw [if_neg a1, if_neg a1, if_neg a2, if_neg a2, if_neg a3, if_neg a3]; rfl
theorem RAt.setB {A i : Nat} {W : World} {r : RS} (h : RAt A W r) (hi : i < 2048) (v : Nat) : RAt A (W.setCell ⟨A, 8 + i, none⟩ (.int .u8 (v : Int))) (setB r i v) := by
  refine h.set_ (by omega) ?_ (fun n hn hne => ?_)
  · rw [RS.cb _ hi]
    show Value.int .u8 ((if i = i then v else r.b i : Nat) : Int) = _
    rw [if_pos rfl]
  · unfold RS.c
    by_cases a1 : n < 8
    · rw [if_pos a1, if_pos a1]; rfl
    · by_cases a2 : n < 2056
      · rw [if_neg a1, if_neg a1, if_pos a2, if_pos a2]
        show Value.int .u8 ((if n - 8 = i then v else r.b (n - 8) : Nat) : Int) = _
        rw [if_neg (by omega)]
      · rw [if_neg a1, if_neg a1, if_neg a2, if_neg a2]; rfl
theorem RAt.setK {A i : Nat} {W : World} {r : RS} (h : RAt A W r) (hi : i < 128) (v : Bool) : RAt A (W.setCell ⟨A, 2184 + i, none⟩ (.bool v)) (setK r i v) := by
  refine h.set_ (by omega) ?_ (fun n hn hne => ?_)
  · rw [RS.ck _ hi]
    show Value.bool (if i = i then v else r.k i) = _
    rw [if_pos rfl]
  · unfold RS.c
    by_cases a1 : n < 8
    · rw [if_pos a1, if_pos a1]; rfl
    · by_cases a2 : n < 2056
      · rw [if_neg a1, if_neg a1, if_pos a2, if_pos a2]; rfl
      · by_cases a3 : n < 2184
        · rw [if_neg a1, if_neg a1, if_neg a2, if_neg a2, if_pos a3, if_pos a3]; rfl
        · by_cases a4 : n < 2312
          · rw [if_neg a1, if_neg a1, if_neg a2, if_neg a2, if_neg a3, if_neg a3, if_pos a4, if_pos a4]
            show Value.bool (if n - 2184 = i then v else r.k (n - 2184)) = _
            rw [if_neg (by omega)]
          · rw [if_neg a1, if_neg a1, if_neg a2, if_neg a2, if_neg a3, if_neg a3, if_neg a4, if_neg a4]; rfl
theorem RAt.setV {A i : Nat} {W : World} {r : RS} (h : RAt A W r) (hi : i < 128) (f : Nat → Value) (vs : List Value) (hl : vs.length = 6) (hf : ∀ q, q < 6 → vs[q]? = some (f (6 * i + q))) : RAt A (W.setCells A (2312 + 6 * i) vs) (setV r i f) := by
  refine h.setm _ vs (by omega) (fun q hq => ?_) (fun n hn hne => ?_)
  · rw [hf q (by omega), show 2312 + 6 * i + q = 2312 + (6 * i + q) by omega, RS.cv _ (by omega)]
    show some (f (6 * i + q)) = some (if 6 * i ≤ 6 * i + q ∧ 6 * i + q < 6 * i + 6 then f (6 * i + q) else r.v (6 * i + q))
    rw [if_pos (by omega)]
  · unfold RS.c
    by_cases a1 : n < 8
    · rw [if_pos a1, if_pos a1]; rfl
    · by_cases a2 : n < 2056
      · rw [if_neg a1, if_neg a1, if_pos a2, if_pos a2]; rfl
      · by_cases a3 : n < 2184
        · rw [if_neg a1, if_neg a1, if_neg a2, if_neg a2, if_pos a3, if_pos a3]; rfl
        · by_cases a4 : n < 2312
          · rw [if_neg a1, if_neg a1, if_neg a2, if_neg a2, if_neg a3, if_neg a3, if_pos a4, if_pos a4]; rfl
          · rw [if_neg a1, if_neg a1, if_neg a2, if_neg a2, if_neg a3, if_neg a3, if_neg a4, if_neg a4]
            show (if 6 * i ≤ n - 2312 ∧ n - 2312 < 6 * i + 6 then f (n - 2312) else r.v (n - 2312)) = _
            rw [if_neg (by omega)]
theorem capZ_at (i q : Nat) (hq : q < 6) : capZ[q]? = some (zv (6 * i + q)) := by
  have h6 : q = 0 ∨ q = 1 ∨ q = 2 ∨ q = 3 ∨ q = 4 ∨ q = 5 := by omega
  unfold zv
  rcases h6 with rfl | rfl | rfl | rfl | rfl | rfl
  · rw [if_neg (by omega)]; rfl
  · rw [if_neg (by omega)]; rfl
  · rw [if_neg (by omega)]; rfl
  · rw [if_neg (by omega)]; rfl
  · rw [if_neg (by omega)]; rfl
  · rw [if_pos (by omega)]; rfl
/-- With the tags of j granules from F on. -/
def tagN (r : RS) (F j : Nat) (v : Int) : RS := { r with t := fun g => if F ≤ g ∧ g < F + j then v else r.t g }
theorem tagN_next (r : RS) (F j : Nat) (v : Int) : setT (tagN r F j v) (F + j) v = tagN r F (j + 1) v := by
  refine RS.eq rfl rfl ?_ rfl rfl
  funext g
  show (if g = F + j then v else if F ≤ g ∧ g < F + j then v else r.t g) = if F ≤ g ∧ g < F + (j + 1) then v else r.t g
  by_cases e : g = F + j
  · rw [if_pos e, if_pos (by omega)]
  · rw [if_neg e]
    by_cases e2 : F ≤ g ∧ g < F + j
    · rw [if_pos e2, if_pos (by omega)]
    · rw [if_neg e2, if_neg (by omega)]
theorem tagN_zero (r : RS) (F : Nat) (v : Int) : tagN r F 0 v = r := by
  refine RS.eq rfl rfl ?_ rfl rfl
  funext g
  exact if_neg (by omega)
set_option maxHeartbeats 3200000 in
theorem rtag (r : RS) (hr : r.One) (a n v : Int) (F E : Nat) (hF : a / 16 = F) (hE : (a + n - 1) / 16 = E) (h0 : 0 ≤ a) (hn : 1 ≤ n) (han : a + n ≤ 2048) (W : World) :
    Calls Tryd.prog 21 #[.agg r.l.toArray, .int .i64 a, .int .i64 n, .int .i64 v] W fun e w' => e = .returned (.agg (tagN r F (E - F + 1) v).l.toArray) ∧ Below W.heap.size W w' := by
  obtain ⟨zv, zi⟩ := zero_of_info infoRz
  have HR1 := fun W => RAt.new W r 34
  have HR2 := fun W => RAt.new W zeroR 34
  have hZs : zeroR.l.toArray.size = 3080 := by rw [List.size_toArray, RS.len]
  have hLs : r.l.toArray.size = 3080 := by rw [List.size_toArray, RS.len]
  have hZ1 := RS.one zeroR_one
  have hL1 := RS.one hr
  have HN := Lib.hid hr
  have g1 : a.tdiv 16 = (F : Int) := by rw [Int.tdiv_eq_ediv_of_nonneg h0]; exact hF
  have g2 : (a + n - 1).tdiv 16 = (E : Int) := by rw [Int.tdiv_eq_ediv_of_nonneg (by omega)]; exact hE
  have HFE : Hid (F ≤ E ∧ E < 128) := Lib.hid (by omega)
  have f0 : (0 : Int) ≤ (F : Int) := by omega
  have f1 : (F : Int) < 128 := by omega
  have f2 : (0 : Int) ≤ (E : Int) := by omega
  have f3 : (E : Int) < 128 := by omega
  have a2 : a ≤ 2048 := by omega
  have n2 : n ≤ 2048 := by omega
  clear hr hF hE
  generalize zeroR.l.toArray = Z at *
  generalize r.l.toArray = L at *
  go_enter Tryd.func21, Tryd.ntmps21
  go_upto_region 1 with (fail)
  have hA := (HR1 W).below (alc0 (W.alloc (.cells L 34)) (.cells Z 34))
  have hB := HR2 (W.alloc (.cells L 34))
  have hBel : Below W.heap.size W ((W.alloc (.cells L 34)).alloc (.cells Z 34)) := alc (alc0 _ _) _
  rw [World.size_alloc] at hB
  generalize (W.alloc (.cells L 34)).alloc (.cells Z 34) = w1 at *
  have HA : Hid (RAt W.heap.size w1 (tagN r F 0 v)) := Lib.hid (by rw [tagN_zero]; exact hA)
  have HB := Lib.hid hB
  have HBel := Lib.hid hBel
  clear hA hB hBel HR1 HR2
  go_wp2_with fail
  go_loopw [9] (fun v9 wr => ∃ j : Nat, j ≤ E - F + 1 ∧ v9 = .int .i64 ((F + j : Nat) : Int) ∧ Hid (RAt W.heap.size wr (tagN r F j v)) ∧ Hid (RAt (W.heap.size + 1) wr zeroR) ∧ Hid (Below W.heap.size W wr)) (fun v9 _ => E + 1 - (intOf v9).toNat)
  case atStart => exact ⟨0, by omega, rfl, HA, HB, HBel⟩
  case round =>
    clear HA HB HBel
    obtain ⟨j, hj, rfl, HA, HB, HBel⟩ := hrel
    obtain ⟨x, hx⟩ : ∃ x, F + j = x := ⟨_, rfl⟩
    rw [hx]
    by_cases hlt : x ≤ E
    · have l1 : (x : Int) ≤ (E : Int) := by omega
      have q0 : (0 : Int) ≤ (x : Int) := by omega
      have q1 : (x : Int) < 128 := by have := HFE.out; omega
      have q2 : (x : Int).toNat = x := Int.toNat_natCast x
      have k1 := (HA.out.2 (2056 + x) (by omega)).1
      have k2 := (HA.out.2 (2056 + x) (by omega)).2
      rw [RS.ct _ (by omega)] at k1
      have HA2 : Hid (RAt W.heap.size (wr.setCell ⟨W.heap.size, 2056 + x, none⟩ (.int .i64 v)) (tagN r F (j + 1) v)) := Lib.hid (by
        have := HA.out.setT (i := x) (by omega) v
        rw [← hx, tagN_next] at this
        rw [hx] at this
        exact this)
      have HB2 : Hid (RAt (W.heap.size + 1) (wr.setCell ⟨W.heap.size, 2056 + x, none⟩ (.int .i64 v)) zeroR) := Lib.hid (HB.out.keep (by rw [size_set]; exact Nat.le_refl _) (heap_other _ _ _ _ (by show W.heap.size + 1 ≠ W.heap.size; omega)))
      have HBel2 : Hid (Below W.heap.size W (wr.setCell ⟨W.heap.size, 2056 + x, none⟩ (.int .i64 v))) := Lib.hid (HBel.out.setCell (Nat.le_refl _) _)
      have HX := Lib.hid (And.intro hx (And.intro hj hlt))
      clear HA HB HBel hx hj hlt
      generalize (tagN r F j v).t x = tx at k1
      go_wp2_with fail
      go_roundw
      case rel => exact ⟨j + 1, by have := HX.out; have := HFE.out; omega, congrArg (Value.int .i64) (by have := HX.out; omega), HA2, HB2, HBel2⟩
      case measure => (have := HX.out; simp [intOf]; omega)
    · have l1 : ¬ (x : Int) ≤ (E : Int) := by omega
      have HA1 : Hid (RAt W.heap.size wr (tagN r F (E - F + 1) v)) := Lib.hid (by
        have := HA.out
        rwa [show j = E - F + 1 by have := HFE.out; omega] at this)
      have HRG := Lib.hid HA1.out.range
      have HTH : Hid (wr.there (W.heap.size + 1) 0 (tagN r F (E - F + 1) v).l.toArray.size) := Lib.hid (by rw [show (tagN r F (E - F + 1) v).l.toArray.size = 3080 by rw [List.size_toArray, RS.len]]; exact HB.out.there)
      have HFIN : Hid (RAt (W.heap.size + 1) (wr.setCells (W.heap.size + 1) 0 (tagN r F (E - F + 1) v).l) (tagN r F (E - F + 1) v)) := Lib.hid HB.out.cells
      have HBel2 : Hid (Below W.heap.size W (wr.setCells (W.heap.size + 1) 0 (tagN r F (E - F + 1) v).l)) := Lib.hid (HBel.out.trans ((ob_cells _ _ _ _).1.2.2 _ (by omega) HBel.out.size))
      have HI1 := Lib.hid (RS.info (tagN r F (E - F + 1) v))
      have HI2 := Lib.hid (RS.infoA (tagN r F (E - F + 1) v))
      have HON := Lib.hid (RS.one (r := tagN r F (E - F + 1) v) HN.out)
      clear HA HB HBel hx hj hlt HA1
      generalize hFL : (tagN r F (E - F + 1) v).l = FL at *
      have HFL := Lib.hid hFL
      clear hFL
      go_wp2_with (first | refine wpList_load_mid rfl 34 (.tmp 4) rfl W.heap.size 0 rfl FL _ HRG.out Tryd.underlying34 rfl HI1.out ?_ | refine wpList_store_mid rfl 34 (.tmp 8) (.tmp 25) rfl (W.heap.size + 1) 0 FL.toArray rfl rfl HTH.out HI2.out HON.out ?_)
      refine bodyPost_ret (results_cell_mid rfl _ _ (W.heap.size + 1) FL _ rfl (by have := HFIN.out.range; rw [HFL.out] at this; exact this) Tryd.underlying34 rfl HI1.out) rfl ⟨by rw [HFL.out], HBel2.out⟩
end Go.Proofs.YtgidnmjeifgciaaDoor
namespace Go.Proofs.YtgidnmjeifgciaaDoor
set_option maxRecDepth 100000
open Go.RowKit Go.ChangeMaps Go.MapKept
set_option linter.unusedVariables false
set_option linter.unusedSimpArgs false

/-- Does granule g have one of i bytes from a on? -/
def Tch (a i g : Nat) : Prop := a < 16 * g + 16 ∧ 16 * g < a + i ∧ 0 < i
instance (a i g : Nat) : Decidable (Tch a i g) := by unfold Tch; infer_instance
theorem Tch.next {a i g : Nat} : Tch a (i + 1) g ↔ (g = (a + i) / 16 ∨ Tch a i g) := by unfold Tch; omega
def wrN (r : RS) (a : Nat) (d : Nat → Nat) (i : Nat) : RS :=
  { r with b := fun x => if a ≤ x ∧ x < a + i then d (x - a) else r.b x, k := fun g => if Tch a i g then false else r.k g, v := fun x => if Tch a i (x / 6) then zv x else r.v x }
theorem wrN_zero (r : RS) (a : Nat) (d : Nat → Nat) : wrN r a d 0 = r := by
  refine RS.eq rfl ?_ rfl ?_ ?_
  · funext x; exact if_neg (by omega)
  · funext g; exact if_neg (by unfold Tch; omega)
  · funext g; exact if_neg (by unfold Tch; omega)
theorem wrN_next (r : RS) (a : Nat) (d : Nat → Nat) (i g : Nat) (hg : (a + i) / 16 = g) : setV (setK (setB (wrN r a d i) (a + i) (d i)) g false) g zv = wrN r a d (i + 1) := by
  subst hg
  refine RS.eq rfl ?_ rfl ?_ ?_
  · funext x
    show (if x = a + i then d i else if a ≤ x ∧ x < a + i then d (x - a) else r.b x) = if a ≤ x ∧ x < a + (i + 1) then d (x - a) else r.b x
    by_cases e : x = a + i
    · subst e
      rw [if_pos rfl, if_pos (by omega), Nat.add_sub_cancel_left]
    · rw [if_neg e]
      by_cases e2 : a ≤ x ∧ x < a + i
      · rw [if_pos e2, if_pos (by omega)]
      · rw [if_neg e2, if_neg (by omega)]
  · funext g
    show (if g = (a + i) / 16 then false else if Tch a i g then false else r.k g) = if Tch a (i + 1) g then false else r.k g
    by_cases e : g = (a + i) / 16
    · rw [if_pos e, if_pos (Tch.next.2 (.inl e))]
    · rw [if_neg e]
      by_cases e2 : Tch a i g
      · rw [if_pos e2, if_pos (Tch.next.2 (.inr e2))]
      · rw [if_neg e2, if_neg (fun h => (Tch.next.1 h).elim e e2)]
  · funext x
    show (if 6 * ((a + i) / 16) ≤ x ∧ x < 6 * ((a + i) / 16) + 6 then zv x else if Tch a i (x / 6) then zv x else r.v x) = if Tch a (i + 1) (x / 6) then zv x else r.v x
    by_cases e : 6 * ((a + i) / 16) ≤ x ∧ x < 6 * ((a + i) / 16) + 6
    · rw [if_pos e, if_pos (Tch.next.2 (.inl (by omega)))]
    · rw [if_neg e]
      by_cases e2 : Tch a i (x / 6)
      · rw [if_pos e2, if_pos (Tch.next.2 (.inr e2))]
      · rw [if_neg e2, if_neg (fun h => (Tch.next.1 h).elim (by omega) e2)]
theorem wrN_one {r : RS} (h : r.One) (a : Nat) (d : Nat → Nat) (i : Nat) : (wrN r a d i).One := fun x hx => by
  show (if Tch a i (x / 6) then zv x else r.v x).oneCell' = true
  split
  · unfold zv; split <;> rfl
  · exact h x hx
set_option maxHeartbeats 3200000 in
theorem rwrite (r : RS) (hr : r.One) (a n sb so cb : Nat) (d : Nat → Nat) (han : a + n ≤ 2048) (hn : 1 ≤ n) (W : World) (hs : ∀ i, i < n → W.cell? ⟨sb, so + i, none⟩ = some (.int .u8 (d i : Int))) (hd : ∀ i, i < n → d i < 256) :
    Calls Tryd.prog 18 #[.agg r.l.toArray, .int .i64 (a : Int), .slice (some ⟨sb, so, none⟩) n cb] W fun e w' => e = .returned (.agg (wrN r a d n).l.toArray) ∧ Below W.heap.size W w' := by
  obtain ⟨zvv, zi⟩ := zero_of_info infoRz
  have hsz := World.block_lt_of_cell? W _ (hs 0 (by omega))
  have HR1 := fun W => RAt.new W r 34
  have HR2 := fun W => RAt.new W zeroR 34
  have hZs : zeroR.l.toArray.size = 3080 := by rw [List.size_toArray, RS.len]
  have hLs : r.l.toArray.size = 3080 := by rw [List.size_toArray, RS.len]
  have hZ1 := RS.one zeroR_one
  have hL1 := RS.one hr
  have HN := Lib.hid hr
  have HS := Lib.hid (And.intro hs hd)
  have a2 : (a : Int) ≤ 2048 := by omega
  have n2 : (n : Int) ≤ 2048 := by omega
  have HAN := Lib.hid (And.intro han hn)
  clear hr hs hd
  generalize zeroR.l.toArray = Z at *
  generalize r.l.toArray = L at *
  go_enter Tryd.func18, Tryd.ntmps18
  go_upto_region 1 with (fail)
  have hA := (HR1 W).below (alc0 (W.alloc (.cells L 34)) (.cells Z 34))
  have hB := HR2 (W.alloc (.cells L 34))
  have hBel : Below W.heap.size W ((W.alloc (.cells L 34)).alloc (.cells Z 34)) := alc (alc0 _ _) _
  rw [World.size_alloc] at hB
  generalize (W.alloc (.cells L 34)).alloc (.cells Z 34) = w1 at *
  have HA : Hid (RAt W.heap.size w1 (wrN r a d 0)) := Lib.hid (by rw [wrN_zero]; exact hA)
  have HB := Lib.hid hB
  have HBel := Lib.hid hBel
  clear hA hB hBel HR1 HR2
  go_wp2_with fail
  go_loopw [7] (fun v7 wr => ∃ i : Nat, i ≤ n ∧ v7 = .int .i64 (i : Int) ∧ Hid (RAt W.heap.size wr (wrN r a d i)) ∧ Hid (RAt (W.heap.size + 1) wr zeroR) ∧ Hid (Below W.heap.size W wr)) (fun v7 _ => n - (intOf v7).toNat)
  case atStart => exact ⟨0, by omega, rfl, HA, HB, HBel⟩
  case round =>
    clear HA HB HBel
    obtain ⟨i, hi, rfl, HA, HB, HBel⟩ := hrel
    by_cases hlt : i < n
    · have l1 : (i : Int) < (n : Int) := by omega
      have i0 : (0 : Int) ≤ (i : Int) := by omega
      have i2 : (i : Int).toNat = i := Int.toNat_natCast i
      have ax : (a : Int) + (i : Int) = ((a + i : Nat) : Int) := by omega
      obtain ⟨x, hx⟩ : ∃ x, a + i = x := ⟨_, rfl⟩
      rw [hx] at ax
      have q0 : (0 : Int) ≤ (x : Int) := by omega
      have q1 : (x : Int) < 2048 := by omega
      have q2 : (x : Int).toNat = x := Int.toNat_natCast x
      have g1 : (x : Int).tdiv 16 = ((x / 16 : Nat) : Int) := by rw [Int.tdiv_eq_ediv_of_nonneg (by omega)]; omega
      have g2 : (x : Int) / 16 = ((x / 16 : Nat) : Int) := by omega
      obtain ⟨g, hg⟩ : ∃ g, x / 16 = g := ⟨_, rfl⟩
      rw [hg] at g1 g2
      have r0 : (0 : Int) ≤ (g : Int) := by omega
      have r1 : (g : Int) < 128 := by omega
      have r2 : (g : Int).toNat = g := Int.toNat_natCast g
      have cb1 : wr.cell? ⟨sb, so + i, none⟩ = some (.int .u8 (d i : Int)) := (HBel.out.cell (p := ⟨sb, so + i, none⟩) hsz).trans (HS.out.1 i hlt)
      have k1 := (HA.out.2 (8 + x) (by omega)).1
      have k2 := (HA.out.2 (8 + x) (by omega)).2
      have k3 := (HA.out.2 (2184 + g) (by omega)).1
      have k4 := (HA.out.2 (2184 + g) (by omega)).2
      rw [RS.cb _ (by omega)] at k1
      rw [RS.ck _ (by omega)] at k3
      have hnew := ((HA.out.setB (i := x) (by omega) (d i)).setK (i := g) (by omega) false).setV (i := g) (by omega) zv capZ rfl (fun q hq => capZ_at g q hq)
      rw [← hx, wrN_next r a d i g (by rw [hx]; exact hg), hx, show 6 * g = g * 6 by omega] at hnew
      have HTH : Hid (((wr.setCell ⟨W.heap.size, 8 + x, none⟩ (.int .u8 (d i : Int))).setCell ⟨W.heap.size, 2184 + g, none⟩ (.bool false)).there W.heap.size (2312 + g * 6) (#[.int .i64 0, .int .i64 0, .int .i64 0, .int .i64 0, .int .i64 0, .bool false] : Array Value).size) := Lib.hid (fun j hj => by
        have hj6 : j < 6 := hj
        have h1 := HA.out.2 (2312 + g * 6 + j) (by omega)
        rw [World.cell?_setCell_other _ _ _ _ (by intro q; injection q with _ q; omega), World.cell?_setCell_other _ _ _ _ (by intro q; injection q with _ q; omega), World.frozen?_setCell, World.frozen?_setCell, h1.1]
        exact ⟨rfl, h1.2⟩)
      have HA2 := Lib.hid hnew
      have HO : Hid (OB W.heap.size wr (((wr.setCell ⟨W.heap.size, 8 + x, none⟩ (.int .u8 (d i : Int))).setCell ⟨W.heap.size, 2184 + g, none⟩ (.bool false)).setCells W.heap.size (2312 + g * 6) capZ)) := Lib.hid (((ob_set _ _ _ _).trans (ob_set _ _ _ _) (.inl rfl)).trans (ob_cells _ _ _ _).1 (.inl rfl))
      have HB2 : Hid (RAt (W.heap.size + 1) (((wr.setCell ⟨W.heap.size, 8 + x, none⟩ (.int .u8 (d i : Int))).setCell ⟨W.heap.size, 2184 + g, none⟩ (.bool false)).setCells W.heap.size (2312 + g * 6) capZ) zeroR) := Lib.hid (HB.out.keep HO.out.1 (HO.out.2.1 _ HB.out.1 (by omega)))
      have HBel2 : Hid (Below W.heap.size W (((wr.setCell ⟨W.heap.size, 8 + x, none⟩ (.int .u8 (d i : Int))).setCell ⟨W.heap.size, 2184 + g, none⟩ (.bool false)).setCells W.heap.size (2312 + g * 6) capZ)) := Lib.hid (HBel.out.trans (HO.out.2.2 _ (Nat.le_refl _) HBel.out.size))
      clear HA HB HBel hnew HO hx hg
      generalize (wrN r a d i).k g = kx at k3
      generalize (wrN r a d i).b x = bx at k1
      generalize d i = di at *
      go_wp2_with (refine wpList_store_mid rfl 31 (.tmp 35) (.tmp 31) rfl W.heap.size (2312 + g * 6) #[.int .i64 0, .int .i64 0, .int .i64 0, .int .i64 0, .int .i64 0, .bool false] rfl rfl ?ht capInfo capOne ?_; simpa using HTH.out)
      go_wp2_with fail
      go_roundw
      case rel => exact ⟨i + 1, by omega, by go_num, HA2, HB2, HBel2⟩
      case measure => simp [intOf]; omega
    · have l1 : ¬ (i : Int) < (n : Int) := by omega
      have HA1 : Hid (RAt W.heap.size wr (wrN r a d n)) := Lib.hid (by
        have := HA.out
        rwa [show i = n by omega] at this)
      have HRG := Lib.hid HA1.out.range
      have HTH : Hid (wr.there (W.heap.size + 1) 0 (wrN r a d n).l.toArray.size) := Lib.hid (by rw [show (wrN r a d n).l.toArray.size = 3080 by rw [List.size_toArray, RS.len]]; exact HB.out.there)
      have HFIN : Hid (RAt (W.heap.size + 1) (wr.setCells (W.heap.size + 1) 0 (wrN r a d n).l) (wrN r a d n)) := Lib.hid HB.out.cells
      have HBel2 : Hid (Below W.heap.size W (wr.setCells (W.heap.size + 1) 0 (wrN r a d n).l)) := Lib.hid (HBel.out.trans ((ob_cells _ _ _ _).1.2.2 _ (by omega) HBel.out.size))
      have HI1 := Lib.hid (RS.info (wrN r a d n))
      have HI2 := Lib.hid (RS.infoA (wrN r a d n))
      have HON := Lib.hid (RS.one (wrN_one HN.out a d n))
      clear HA HB HBel hi hlt HA1
      generalize hFL : (wrN r a d n).l = FL at *
      have HFL := Lib.hid hFL
      clear hFL
      go_wp2_with (first | refine wpList_load_mid rfl 34 (.tmp 3) rfl W.heap.size 0 rfl FL _ HRG.out Tryd.underlying34 rfl HI1.out ?_ | refine wpList_store_mid rfl 34 (.tmp 6) (.tmp 36) rfl (W.heap.size + 1) 0 FL.toArray rfl rfl HTH.out HI2.out HON.out ?_)
      refine bodyPost_ret (results_cell_mid rfl _ _ (W.heap.size + 1) FL _ rfl (by have := HFIN.out.range; rw [HFL.out] at this; exact this) Tryd.underlying34 rfl HI1.out) rfl ⟨by rw [HFL.out], HBel2.out⟩
end Go.Proofs.YtgidnmjeifgciaaDoor
