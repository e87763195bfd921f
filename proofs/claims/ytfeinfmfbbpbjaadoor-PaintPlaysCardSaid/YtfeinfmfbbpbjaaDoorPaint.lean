/- Contracts of package paint. -/
import Derived.Test.YtfeinfmfbbpbjaaDoorSetK
import Derived.Test.YtfeinfmfbbpbjaaDoorSetB
import Derived.Test.YtfeinfmfbbpbjaaDoorSpanG
import Derived.Deep.RegionWith
import Derived.Deep.RegionHeld3
import Derived.Deep.DeepCutAuto
namespace Go.Proofs.YtfeinfmfbbpbjaaDoor
open Go.RowKit
set_option linter.unusedVariables false
set_option linter.unusedSimpArgs false

/-- Paint at block p: the set at g, in memory from lo on, below hi, says which granules are painted: c of them. -/
def PtIs (lo hi g p : Nat) (W : World) (c : Int) (ws : List Nat) : Prop :=
  SetIs lo hi g W 16384 c ws ∧ (hi ≤ p ∧ p < W.heap.size) ∧ (0 ≤ c ∧ c ≤ 16384) ∧ W.cell? ⟨p, 0, none⟩ = some (.pointer (some ⟨g, 0, none⟩))
theorem PtIs.keep {lo hi g p : Nat} {W W' : World} {c : Int} {ws : List Nat} (h : PtIs lo hi g p W c ws) (hs : W.heap.size ≤ W'.heap.size) (hk : ∀ i, lo ≤ i → i ≤ p → W'.heap[i]? = W.heap[i]?) : PtIs lo hi g p W' c ws := by
  obtain ⟨h1, ⟨h2, h3⟩, h4, h5⟩ := h
  have hl : lo ≤ p := by have := h1.1; omega
  exact ⟨h1.keep hs (fun i i1 i2 => hk i i1 (by omega)), ⟨h2, by omega⟩, h4, (World.cell?_of_block (hk p hl (Nat.le_refl _))).trans h5⟩
theorem PtIs.below {lo hi g p B : Nat} {W W' : World} {c : Int} {ws : List Nat} (h : PtIs lo hi g p W c ws) (hb : Below B W W') (hB : p < B) (hs : W.heap.size ≤ W'.heap.size) : PtIs lo hi g p W' c ws :=
  h.keep hs fun i _ hi => hb.block i (by omega)
theorem PtIs.of_only {lo hi g p : Nat} {W W' : World} {c c' : Int} {ws ws' : List Nat} (h : PtIs lo hi g p W c ws) (k : SetIs lo hi g W' 16384 c' ws') (ho : Only lo hi W W') (hc : 0 ≤ c' ∧ c' ≤ 16384) : PtIs lo hi g p W' c' ws' := by
  obtain ⟨h1, ⟨h2, h3⟩, h4, h5⟩ := h
  exact ⟨k, ⟨h2, by rw [ho.2.1]; exact h3⟩, hc, (World.cell?_of_block (ho.2.2 p h2)).trans h5⟩

def PtNewPost (W : World) (e : Ending) (w' : World) : Prop :=
  ∃ g p, e = .returned (.pointer (some ⟨p, 0, none⟩)) ∧ PtIs W.heap.size p g p w' 0 (List.replicate 256 0) ∧ Below W.heap.size W w'
theorem ptnew_any (W : World) :
    Calls Tryd.prog 7 #[] W (PtNewPost W) := by
  go_enter Tryd.func7, Tryd.ntmps7
  go_wp2_with fail
  refine (snew_any 16384 16384 _ (by decide)).mono ?_
  rintro e v1 ⟨g, rfl, hs, hb1⟩
  rw [show (((16384 : Int) + 63) / 64).toNat = 256 by decide] at hs
  have HS := Lib.hid hs; clear hs
  go_wp2_with fail
  go_ret
  exact ⟨g, v1.heap.size, rfl, ⟨HS.out.keep (by simp) (fun i _ hi => heap_old _ _ _ hi), ⟨Nat.le_refl _, by simp⟩, by omega, by simp⟩, alc hb1 _⟩

section
variable {lo hi g p : Nat} {W : World} {c : Int} {ws : List Nat}

theorem ptset (h : PtIs lo hi g p W c ws) :
    Calls Tryd.prog 28 #[.pointer (some ⟨p, 0, none⟩)] W fun e w' => e = .returned (.pointer (some ⟨g, 0, none⟩)) ∧ W = w' := by
  obtain ⟨h1, _, _, h5⟩ := h
  clear h1
  go_enter Tryd.func28, Tryd.ntmps28
  go_wp2
  go_ret
  exact ⟨rfl, rfl⟩
theorem ptcount (h : PtIs lo hi g p W c ws) :
    Calls Tryd.prog 15 #[.pointer (some ⟨p, 0, none⟩)] W fun e w' => e = .returned (.int .i64 c) ∧ W = w' := by
  have H := Lib.hid h; clear h
  go_enter Tryd.func15, Tryd.ntmps15
  go_wp2_with fail
  refine (ptset H.out).mono ?_
  rintro e w' ⟨rfl, rfl⟩
  go_wp2_with fail
  refine (scount_any _ _ _ _ _ _ _ H.out.1).mono ?_
  rintro e w' ⟨rfl, rfl⟩
  go_wp2
  go_ret
  exact ⟨rfl, rfl⟩

theorem spG {b l : Int} (h : mayB b l = true) : spF b l 16 = b / 16 ∧ spN b l 16 = (b + l - 1) / 16 - b / 16 + 1 := by
  obtain ⟨h1, h2, h3, h4⟩ := mayB_iff.1 h
  rw [spF, spN, if_pos h, if_pos h, downI, if_neg (by omega), partsI, if_neg (by omega)]
  omega
theorem paint_end {lo hi g p : Nat} {W w1 w2 : World} {c c' : Int} {ws ws' : List Nat} (h : PtIs lo hi g p W c ws) (hb : Below W.heap.size W w1) (hs2 : SetIs lo hi g w2 16384 c' ws') (ho : Only lo hi w1 w2) (hc : 0 ≤ c' ∧ c' ≤ 16384) :
    PtIs lo hi g p w2 c' ws' ∧ Below lo W w2 ∧ (∀ i, p < i → i < W.heap.size → w2.heap[i]? = W.heap[i]?) ∧ W.heap.size ≤ w2.heap.size := by
  have h1 := h.below hb h.2.1.2 hb.size
  have hl : lo ≤ W.heap.size := by have := h.1.1; omega
  refine ⟨h1.of_only hs2 ho hc, (hb.mono hl).trans ho.1, fun i i1 i2 => (ho.2.2 i (by have := h.2.1.1; omega)).trans (hb.block i i2), by rw [ho.2.1]; exact hb.size⟩
/-- What a call leaves: the value, the paint, and that nothing else that was there has changed. -/
def PtPost (lo hi g p : Nat) (W : World) (v : Int) (c : Int) (ws : List Nat) (e : Ending) (w' : World) : Prop :=
  e = .returned (.int .i64 v) ∧ PtIs lo hi g p w' c ws ∧ Below lo W w' ∧ (∀ i, p < i → i < W.heap.size → w'.heap[i]? = W.heap[i]?) ∧ W.heap.size ≤ w'.heap.size
theorem ptput (b l : Int) (v c' : Int) (ws' : List Nat) (h : PtIs lo hi g p W c ws) (hp : putN ws (spF b l 16).toNat (sJ 16384 (spF b l 16) (spN b l 16)) = (ws', v)) (hc : c + v = c') (hc' : 0 ≤ c' ∧ c' ≤ 16384) :
    Calls Tryd.prog 8 #[.pointer (some ⟨p, 0, none⟩), .agg #[.int .i64 b, .int .i64 l]] W (PtPost lo hi g p W v c' ws') := by
  have HH := Lib.hid h
  obtain ⟨h1, ⟨h2, h3⟩, h4, h5⟩ := h
  have HD := Lib.hid (fun (w1 : World) (hb : Below W.heap.size W w1) => by
    have := sputall lo hi g w1 16384 c (spF b l 16) (spN b l 16) ws (HH.out.below hb HH.out.2.1.2 hb.size).1 (by omega)
    rw [hp, hc] at this
    exact this)
  have HL : Hid (∀ w1 w2 : World, Below W.heap.size W w1 → SetIs lo hi g w2 16384 c' ws' → Only lo hi w1 w2 → PtPost lo hi g p W v c' ws' (.returned (.int .i64 v)) w2) :=
    Lib.hid (fun w1 w2 hb hs2 ho => ⟨rfl, paint_end HH.out hb hs2 ho hc'⟩)
  have HS := Lib.hid (fun (w1 : World) (hb : Below W.heap.size W w1) => ptset (W := w1) (HH.out.below hb HH.out.2.1.2 hb.size))
  clear h1 hp hc
  go_enter Tryd.func8, Tryd.ntmps8
  go_upto_region 1 with (fail)
  go_region_with (first | (go_at_call 28; refine (HS.out _ (by first | exact (alc0 _ _).drew | exact alc0 _ _)).mono ?_; rintro e w' ⟨rfl, rfl⟩) | (go_at_call 30; refine (granules_any b l _).mono ?_; rintro e w1 ⟨rfl, hb⟩; have hb1 : Below W.heap.size W w1 := thn (alc0 W (.cells #[.int .i64 b, .int .i64 l] 29)) (by first | exact hb | exact (Below.refl _ _).drew.trans hb)) | (go_at_call 29; refine (HD.out _ (by first | exact hb1 | exact hb1.drew)).mono ?_; rintro e w2 ⟨rfl, hs2, ho2⟩))
  all_goals go_wp2
  all_goals
    go_ret
    exact HL.out _ _ (by first | exact hb1 | exact hb1.drew) hs2 ho2
theorem ptclean (b l : Int) (v c' : Int) (ws' : List Nat) (h : PtIs lo hi g p W c ws) (hp : dropN ws (spF b l 16).toNat (sJ 16384 (spF b l 16) (spN b l 16)) = (ws', v)) (hc : c - v = c') (hc' : 0 ≤ c' ∧ c' ≤ 16384) :
    Calls Tryd.prog 9 #[.pointer (some ⟨p, 0, none⟩), .agg #[.int .i64 b, .int .i64 l]] W (PtPost lo hi g p W v c' ws') := by
  have HH := Lib.hid h
  obtain ⟨h1, ⟨h2, h3⟩, h4, h5⟩ := h
  have HD := Lib.hid (fun (w1 : World) (hb : Below W.heap.size W w1) => by
    have := sdropall lo hi g w1 16384 c (spF b l 16) (spN b l 16) ws (HH.out.below hb HH.out.2.1.2 hb.size).1 ⟨by rw [hp]; show v ≤ c; omega, by omega⟩
    rw [hp, hc] at this
    exact this)
  have HL : Hid (∀ w1 w2 : World, Below W.heap.size W w1 → SetIs lo hi g w2 16384 c' ws' → Only lo hi w1 w2 → PtPost lo hi g p W v c' ws' (.returned (.int .i64 v)) w2) :=
    Lib.hid (fun w1 w2 hb hs2 ho => ⟨rfl, paint_end HH.out hb hs2 ho hc'⟩)
  have HS := Lib.hid (fun (w1 : World) (hb : Below W.heap.size W w1) => ptset (W := w1) (HH.out.below hb HH.out.2.1.2 hb.size))
  clear h1 hp hc
  go_enter Tryd.func9, Tryd.ntmps9
  go_upto_region 1 with (fail)
  go_region_with (first | (go_at_call 28; refine (HS.out _ (by first | exact (alc0 _ _).drew | exact alc0 _ _)).mono ?_; rintro e w' ⟨rfl, rfl⟩) | (go_at_call 30; refine (granules_any b l _).mono ?_; rintro e w1 ⟨rfl, hb⟩; have hb1 : Below W.heap.size W w1 := thn (alc0 W (.cells #[.int .i64 b, .int .i64 l] 29)) (by first | exact hb | exact (Below.refl _ _).drew.trans hb)) | (go_at_call 31; refine (HD.out _ (by first | exact hb1 | exact hb1.drew)).mono ?_; rintro e w2 ⟨rfl, hs2, ho2⟩))
  all_goals go_wp2
  all_goals
    go_ret
    exact HL.out _ _ (by first | exact hb1 | exact hb1.drew) hs2 ho2
theorem SomeR.only {n f m : Int} {r r' : Bool} (h : SomeR n f m ws r) (k : SomeR n f m ws r') : r = r' := by
  unfold SomeR at h k
  rw [Bool.eq_iff_iff, h, k]
theorem ptsome (b l : Int) (r : Bool) (h : PtIs lo hi g p W c ws) (hr : SomeR 16384 (spF b l 16) (spN b l 16) ws r) (ht : TzTab W) :
    Calls Tryd.prog 13 #[.pointer (some ⟨p, 0, none⟩), .agg #[.int .i64 b, .int .i64 l]] W fun e w' => e = .returned (.bool r) ∧ Below W.heap.size W w' := by
  have HH := Lib.hid h
  have HD := Lib.hid (fun (w1 : World) (hb : Below W.heap.size W w1) => (ssome_any lo hi g w1 16384 c (spF b l 16) (spN b l 16) ws (HH.out.below hb HH.out.2.1.2 hb.size).1 (ht.later hb)).mono (fun e w' q => show e = .returned (.bool r) ∧ w1 = w' from by
    obtain ⟨q1, r', q2, q3⟩ := q
    exact ⟨by rw [q2, SomeR.only q3 hr], q1⟩))
  have HS := Lib.hid (fun (w1 : World) (hb : Below W.heap.size W w1) => ptset (W := w1) (HH.out.below hb HH.out.2.1.2 hb.size))
  clear h hr ht
  go_enter Tryd.func13, Tryd.ntmps13
  go_upto_region 1 with (fail)
  go_region_with (first | (go_at_call 28; refine (HS.out _ (by first | exact (alc0 _ _).drew | exact alc0 _ _)).mono ?_; rintro e w' ⟨rfl, rfl⟩) | (go_at_call 30; refine (granules_any b l _).mono ?_; rintro e w1 ⟨rfl, hb⟩; have hb1 : Below W.heap.size W w1 := thn (alc0 W (.cells #[.int .i64 b, .int .i64 l] 29)) (by first | exact hb | exact (Below.refl _ _).drew.trans hb)) | (go_at_call 33; refine (HD.out _ (by first | exact hb1 | exact hb1.drew)).mono ?_; rintro e w2 ⟨rfl, rfl⟩))
  all_goals go_wp2
  all_goals
    go_ret
    exact ⟨rfl, by first | exact hb1 | exact hb1.drew⟩
theorem box_cells {W w0 : World} {b l : Int} {T : TypeId} (hb : Below (W.alloc (.cells #[.int .i64 b, .int .i64 l] T)).heap.size (W.alloc (.cells #[.int .i64 b, .int .i64 l] T)) w0) :
    w0.cell? ⟨W.heap.size, 0, none⟩ = some (.int .i64 b) ∧ w0.cell? ⟨W.heap.size, 1, none⟩ = some (.int .i64 l) := by
  constructor
  · rw [hb.cell (by simp)]; simp
  · rw [hb.cell (by simp)]; simp
set_option maxHeartbeats 3200000 in
theorem ptwhole (b l : Int) (r : Bool) (h : PtIs lo hi g p W c ws) (hm : mayB b l = true) (hr : (decide (0 ≤ spF b l 16 ∧ 0 ≤ spN b l 16 ∧ spN b l 16 ≤ 16384 ∧ spF b l 16 ≤ 16384 - spN b l 16) && wholeB ws (spF b l 16).toNat (spN b l 16).toNat) = r) :
    Calls Tryd.prog 14 #[.pointer (some ⟨p, 0, none⟩), .agg #[.int .i64 b, .int .i64 l]] W fun e w' => e = .returned (.bool r) ∧ Below W.heap.size W w' := by
  have HH := Lib.hid h
  have HD := Lib.hid (fun (w1 : World) (hb : Below W.heap.size W w1) => swhole_is r lo hi g w1 16384 c (spF b l 16) (spN b l 16) ws (HH.out.below hb HH.out.2.1.2 hb.size).1 hr)
  have HS := Lib.hid (fun (w1 : World) (hb : Below W.heap.size W w1) => ptset (W := w1) (HH.out.below hb HH.out.2.1.2 hb.size))
  have HM := Lib.hid hm
  clear h hr hm
  go_enter Tryd.func14, Tryd.ntmps14
  go_upto_region 1 with (fail)
  go_region_with (first | (go_at_call 34; refine (may_is true _ _ _ HM.out).mono ?_; rintro e w0 ⟨rfl, hb⟩; have hb0 : Below W.heap.size W w0 := thn (alc0 W (.cells #[.int .i64 b, .int .i64 l] 29)) (by first | exact hb | exact (Below.refl _ _).drew.trans hb); obtain ⟨k0, k1⟩ := box_cells (W := W) (w0 := w0) (b := b) (l := l) (T := 29) (by first | exact hb | exact (Below.refl _ _).drew.trans hb)) | (go_at_call 28; refine (HS.out _ (by first | exact hb0 | exact hb0.drew)).mono ?_; rintro e w' ⟨rfl, rfl⟩) | (go_at_call 30; refine (granules_any b l _).mono ?_; rintro e w1 ⟨rfl, hbg⟩; have hb1 : Below W.heap.size W w1 := thn hb0 (by first | exact hbg | exact (Below.refl _ _).drew.trans hbg)) | (go_at_call 35; refine (HD.out _ (by first | exact hb1 | exact hb1.drew)).mono ?_; rintro e w2 ⟨rfl, rfl⟩))
  all_goals go_wp2
  all_goals
    go_ret
    exact ⟨rfl, by first | exact hb1 | exact hb1.drew⟩
theorem ptwhole_no (b l : Int) (p : Option Addr) (W : World) (hm : mayB b l = false) :
    Calls Tryd.prog 14 #[.pointer p, .agg #[.int .i64 b, .int .i64 l]] W fun e w' => e = .returned (.bool false) ∧ Below W.heap.size W w' := by
  have HM := Lib.hid hm
  clear hm
  go_enter Tryd.func14, Tryd.ntmps14
  go_wp2_with fail
  refine wp_region_held_drew (S := (fun w' => w'.cell? ⟨W.heap.size, 0, none⟩ = some (.int .i64 b) ∧ w'.cell? ⟨W.heap.size, 1, none⟩ = some (.int .i64 l) ∧ Below W.heap.size W w' ∧ W.heap.size + 1 ≤ w'.heap.size)) (by kernel_rfl) ?_ (fun hHeld => ?_)
  · (refine ⟨?_, ?_, ?_, ?_⟩ <;> first | exact ((Below.refl _ _).alloc (Nat.le_refl _) _).drew | exact BS | (go_keep; done))
  refine wpAnyH_take (i := 0) (v := ?_) rfl (by kernel_rfl) (by kernel_rfl) (by kernel_rfl) (fun _ _ _ h => h) (Or.inl ⟨by kernel_rfl, ?_⟩) (by assumption) ?_
  rotate_left
  · (intro w hSw; (try dsimp only at hSw); go_simp)
    try (with_reducible rfl)
  rotate_left
  try simp (maxSteps := 4000000) only [Act.put, List.setIfInBounds_toArray, List.set_cons_zero, List.set_cons_succ, List.getElem_toArray, List.getElem_cons_zero, List.getElem_cons_succ]
  refine wpAnyH_ready (rs := [1]) (by kernel_rfl) (by simp) ?_
  refine AllReadyH.cons rfl (fun K2 hK2 => ?_) AllReadyH.nil
  go_simp
  refine (may_is false _ _ _ HM.out).mono ?_
  rintro e w1 ⟨rfl, hb⟩
  refine hK2.out _ _ ?_ (fun hHeld2 => ?_)
  · go_split_ands
    refine ⟨?_, ?_, ?_, ?_⟩
    · (rw [hb.cell (by first | omega | (simp <;> omega))]; assumption)
    · (rw [hb.cell (by first | omega | (simp <;> omega))]; assumption)
    · exact Below.trans (by assumption) (hb.mono (by first | omega | (simp <;> omega)))
    · (have := hb.size; omega)
  clear hK2 K2 hHeld
  have hHeld := hHeld2
  clear hHeld2
  try simp (maxSteps := 4000000) only [Act.put, List.setIfInBounds_toArray, List.set_cons_zero, List.set_cons_succ, List.getElem_toArray, List.getElem_cons_zero, List.getElem_cons_succ]
  refine wpAnyH_take (i := 2) (v := ?_) rfl (by kernel_rfl) (by kernel_rfl) (by kernel_rfl) (fun _ _ _ h => h) (Or.inl ⟨by kernel_rfl, ?_⟩) (by assumption) ?_
  rotate_left
  · (intro w hSw; (try dsimp only at hSw); go_simp)
    try (with_reducible rfl)
  rotate_left
  try simp (maxSteps := 4000000) only [Act.put, List.setIfInBounds_toArray, List.set_cons_zero, List.set_cons_succ, List.getElem_toArray, List.getElem_cons_zero, List.getElem_cons_succ]
  refine wpAnyH_take (i := 3) (v := undef) rfl (by kernel_rfl) (by kernel_rfl) (by kernel_rfl) (fun _ _ _ h => h) (Or.inr ⟨by kernel_rfl, rfl⟩) (by assumption) ?_
  try simp (maxSteps := 4000000) only [Act.put, List.setIfInBounds_toArray, List.set_cons_zero, List.set_cons_succ, List.getElem_toArray, List.getElem_cons_zero, List.getElem_cons_succ]
  refine wpAnyH_take (i := 4) (v := undef) rfl (by kernel_rfl) (by kernel_rfl) (by kernel_rfl) (fun _ _ _ h => h) (Or.inr ⟨by kernel_rfl, rfl⟩) (by assumption) ?_
  try simp (maxSteps := 4000000) only [Act.put, List.setIfInBounds_toArray, List.set_cons_zero, List.set_cons_succ, List.getElem_toArray, List.getElem_cons_zero, List.getElem_cons_succ]
  refine wpAnyH_take (i := 5) (v := undef) rfl (by kernel_rfl) (by kernel_rfl) (by kernel_rfl) (fun _ _ _ h => h) (Or.inr ⟨by kernel_rfl, rfl⟩) (by assumption) ?_
  try simp (maxSteps := 4000000) only [Act.put, List.setIfInBounds_toArray, List.set_cons_zero, List.set_cons_succ, List.getElem_toArray, List.getElem_cons_zero, List.getElem_cons_succ]
  refine wpAnyH_take (i := 6) (v := undef) rfl (by kernel_rfl) (by kernel_rfl) (by kernel_rfl) (fun _ _ _ h => h) (Or.inr ⟨by kernel_rfl, rfl⟩) (by assumption) ?_
  try simp (maxSteps := 4000000) only [Act.put, List.setIfInBounds_toArray, List.set_cons_zero, List.set_cons_succ, List.getElem_toArray, List.getElem_cons_zero, List.getElem_cons_succ]
  refine wpAnyH_take (i := 7) (v := undef) rfl (by kernel_rfl) (by kernel_rfl) (by kernel_rfl) (fun _ _ _ h => h) (Or.inr ⟨by kernel_rfl, rfl⟩) (by assumption) ?_
  try simp (maxSteps := 4000000) only [Act.put, List.setIfInBounds_toArray, List.set_cons_zero, List.set_cons_succ, List.getElem_toArray, List.getElem_cons_zero, List.getElem_cons_succ]
  refine wpAnyH_take (i := 8) (v := undef) rfl (by kernel_rfl) (by kernel_rfl) (by kernel_rfl) (fun _ _ _ h => h) (Or.inr ⟨by kernel_rfl, rfl⟩) (by assumption) ?_
  try simp (maxSteps := 4000000) only [Act.put, List.setIfInBounds_toArray, List.set_cons_zero, List.set_cons_succ, List.getElem_toArray, List.getElem_cons_zero, List.getElem_cons_succ]
  refine wpAnyH_take (i := 9) (v := undef) rfl (by kernel_rfl) (by kernel_rfl) (by kernel_rfl) (fun _ _ _ h => h) (Or.inr ⟨by kernel_rfl, rfl⟩) (by assumption) ?_
  try simp (maxSteps := 4000000) only [Act.put, List.setIfInBounds_toArray, List.set_cons_zero, List.set_cons_succ, List.getElem_toArray, List.getElem_cons_zero, List.getElem_cons_succ]
  refine wpAnyH_take (i := 10) (v := ?_) rfl (by kernel_rfl) (by kernel_rfl) (by kernel_rfl) (fun _ _ _ h => h) (Or.inl ⟨by kernel_rfl, ?_⟩) (by assumption) ?_
  rotate_left
  · (intro w hSw; (try dsimp only at hSw); go_simp)
    try (with_reducible rfl)
  rotate_left
  try simp (maxSteps := 4000000) only [Act.put, List.setIfInBounds_toArray, List.set_cons_zero, List.set_cons_succ, List.getElem_toArray, List.getElem_cons_zero, List.getElem_cons_succ]
  refine wpAnyH_take (i := 11) (v := ?_) rfl (by kernel_rfl) (by kernel_rfl) (by kernel_rfl) (fun _ _ _ h => h) (Or.inl ⟨by kernel_rfl, ?_⟩) (by assumption) ?_
  rotate_left
  · (intro w hSw; (try dsimp only at hSw); go_simp)
    try (with_reducible rfl)
  rotate_left
  try simp (maxSteps := 4000000) only [Act.put, List.setIfInBounds_toArray, List.set_cons_zero, List.set_cons_succ, List.getElem_toArray, List.getElem_cons_zero, List.getElem_cons_succ]
  refine wpAnyH_done (by kernel_rfl) ?_ _
  go_wp2
  go_ret
  exact ⟨rfl, hHeld.2.2.1⟩
theorem pthas (x : Int) (r : Bool) (h : PtIs lo hi g p W c ws) (hr : SomeR 16384 (spF x 1 16) (spN x 1 16) ws r) (ht : TzTab W) :
    Calls Tryd.prog 10 #[.pointer (some ⟨p, 0, none⟩), .int .i64 x] W fun e w' => e = .returned (.bool r) ∧ Below W.heap.size W w' := by
  have HD := Lib.hid (ptsome x 1 r h hr ht)
  clear h hr ht
  go_enter Tryd.func10, Tryd.ntmps10
  go_wp2_with fail
  refine HD.out.mono ?_
  rintro e w' ⟨rfl, hb⟩
  go_wp2
  go_ret
  exact ⟨rfl, hb⟩
end
end Go.Proofs.YtfeinfmfbbpbjaaDoor
