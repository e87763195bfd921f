/- Package paint: New, Put, Some (what PaintPlays' texts have, for a seat of the memory). -/
import Derived.Test.YtljjcomedjdpaaaDoorSetK
import Derived.Test.YtljjcomedjdpaaaDoorSetB
import Derived.Test.YtljjcomedjdpaaaDoorSpanG
import Derived.Test.YtljjcomedjdpaaaDoorSlots
import Derived.Deep.RegionWith
import Derived.Deep.RegionHeld3
import Derived.Deep.DeepCutAuto
namespace Go.Proofs.YtljjcomedjdpaaaDoor
set_option maxRecDepth 100000
open Go.RowKit
set_option linter.unusedVariables false
set_option linter.unusedSimpArgs false

/-- Paint at block p: the set at g, in memory from lo on, below hi, says which granules are painted: c of them. -/
def PtIs (lo hi g p : Nat) (W : World) (c : Int) (ws : List Nat) : Prop :=
  SetIs lo hi g W 16384 c ws ∧ (hi ≤ p ∧ p < W.heap.size) ∧ (0 ≤ c ∧ c ≤ 16384) ∧ W.cell? ⟨p, 0, none⟩ = some (.pointer (some ⟨g, 0, none⟩))
theorem PtIs.keep {lo hi g p : Nat} {W W' : World} {c : Int} {ws : List Nat} (h : PtIs lo hi g p W c ws) (hs : W.heap.size ≤ W'.heap.size) (hk : ∀ i, lo ≤ i → i ≤ p → W'.heap[i]? = W.heap[i]?) : PtIs lo hi g p W' c ws := by
  obtain ⟨h1, ⟨h2, h3⟩, h4, h5⟩ := h
  have hl : lo ≤ p := by have := h1.1; omega
  exact ⟨h1.keep hs (fun i i1 i2 => hk i i1 (by omega)), ⟨h2, by omega⟩, h4, (World.cell?_of_block (hk p hl (Nat.le_refl _))).trans h5⟩
theorem PtIs.below {lo hi g p B : Nat} {W W' : World} {c : Int} {ws : List Nat} (h : PtIs lo hi g p W c ws) (hb : Below B W W') (hB : p < B) (hs : W.heap.size ≤ W'.heap.size) : PtIs lo hi g p W' c ws :=
  h.keep hs fun i _ hi => hb.block i (by omega)
theorem PtIs.of_only {lo hi g p : Nat} {W W' : World} {c c' : Int} {ws ws' : List Nat} (h : PtIs lo hi g p W c ws) (k : SetIs lo hi g W' 16384 c' ws') (ho : Only lo hi W W') (hc : 0 ≤ c' ∧ c' ≤ 16384) : PtIs lo hi g p W' c' ws' := by
  obtain ⟨h1, ⟨h2, h3⟩, h4, h5⟩ := h
  exact ⟨k, ⟨h2, by rw [ho.2.1]; exact h3⟩, hc, (World.cell?_of_block (ho.2.2 p h2)).trans h5⟩
def PtNewPost (W : World) (e : Ending) (w' : World) : Prop :=
  ∃ g p, e = .returned (.pointer (some ⟨p, 0, none⟩)) ∧ PtIs W.heap.size p g p w' 0 (List.replicate 256 0) ∧ Below W.heap.size W w'
theorem ptnew_any (W : World) :
    Calls Tryd.prog 7 #[] W (PtNewPost W) := by
  go_enter Tryd.func7, Tryd.ntmps7
  go_wp2_with fail
  refine (snew_any 16384 16384 _ (by decide)).mono ?_
  rintro e v1 ⟨g, rfl, hs, hb1⟩
  rw [show (((16384 : Int) + 63) / 64).toNat = 256 by decide] at hs
  have HS := Lib.hid hs; clear hs
  go_wp2_with fail
  go_ret
  exact ⟨g, v1.heap.size, rfl, ⟨HS.out.keep (by simp) (fun i _ hi => heap_old _ _ _ hi), ⟨Nat.le_refl _, by simp⟩, by omega, by simp⟩, alc hb1 _⟩
section
variable {lo hi g p : Nat} {W : World} {c : Int} {ws : List Nat}
theorem ptset (h : PtIs lo hi g p W c ws) :
    Calls Tryd.prog 29 #[.pointer (some ⟨p, 0, none⟩)] W fun e w' => e = .returned (.pointer (some ⟨g, 0, none⟩)) ∧ W = w' := by
  obtain ⟨h1, _, _, h5⟩ := h
  clear h1
  go_enter Tryd.func29, Tryd.ntmps29
  go_wp2
  go_ret
  exact ⟨rfl, rfl⟩
theorem paint_end {lo hi g p : Nat} {W w1 w2 : World} {c c' : Int} {ws ws' : List Nat} (h : PtIs lo hi g p W c ws) (hb : Below W.heap.size W w1) (hs2 : SetIs lo hi g w2 16384 c' ws') (ho : Only lo hi w1 w2) (hc : 0 ≤ c' ∧ c' ≤ 16384) :
    PtIs lo hi g p w2 c' ws' ∧ Below lo W w2 ∧ (∀ i, p < i → i < W.heap.size → w2.heap[i]? = W.heap[i]?) ∧ W.heap.size ≤ w2.heap.size := by
  have h1 := h.below hb h.2.1.2 hb.size
  have hl : lo ≤ W.heap.size := by have := h.1.1; omega
  refine ⟨h1.of_only hs2 ho hc, (hb.mono hl).trans ho.1, fun i i1 i2 => (ho.2.2 i (by have := h.2.1.1; omega)).trans (hb.block i i2), by rw [ho.2.1]; exact hb.size⟩
/-- What a call leaves: the value, the paint, and that nothing else that was there has changed. -/
def PtPost (lo hi g p : Nat) (W : World) (v : Int) (c : Int) (ws : List Nat) (e : Ending) (w' : World) : Prop :=
  e = .returned (.int .i64 v) ∧ PtIs lo hi g p w' c ws ∧ Below lo W w' ∧ (∀ i, p < i → i < W.heap.size → w'.heap[i]? = W.heap[i]?) ∧ W.heap.size ≤ w'.heap.size
theorem ptput (b l : Int) (v c' : Int) (ws' : List Nat) (h : PtIs lo hi g p W c ws) (hp : putN ws (spF b l 16).toNat (sJ 16384 (spF b l 16) (spN b l 16)) = (ws', v)) (hc : c + v = c') (hc' : 0 ≤ c' ∧ c' ≤ 16384) :
    Calls Tryd.prog 8 #[.pointer (some ⟨p, 0, none⟩), .agg #[.int .i64 b, .int .i64 l]] W (PtPost lo hi g p W v c' ws') := by
  have HH := Lib.hid h
  obtain ⟨h1, ⟨h2, h3⟩, h4, h5⟩ := h
  have HD := Lib.hid (fun (w1 : World) (hb : Below W.heap.size W w1) => by
    have := sputall lo hi g w1 16384 c (spF b l 16) (spN b l 16) ws (HH.out.below hb HH.out.2.1.2 hb.size).1 (by omega)
    rw [hp, hc] at this
    exact this)
  have HL : Hid (∀ w1 w2 : World, Below W.heap.size W w1 → SetIs lo hi g w2 16384 c' ws' → Only lo hi w1 w2 → PtPost lo hi g p W v c' ws' (.returned (.int .i64 v)) w2) :=
    Lib.hid (fun w1 w2 hb hs2 ho => ⟨rfl, paint_end HH.out hb hs2 ho hc'⟩)
  have HS := Lib.hid (fun (w1 : World) (hb : Below W.heap.size W w1) => ptset (W := w1) (HH.out.below hb HH.out.2.1.2 hb.size))
  clear h1 hp hc
  go_enter Tryd.func8, Tryd.ntmps8
  go_upto_region 1 with (fail)
  go_region_with (first | (go_at_call 29; refine (HS.out _ (by first | exact (alc0 _ _).drew | exact alc0 _ _)).mono ?_; rintro e w' ⟨rfl, rfl⟩) | (go_at_call 31; refine (granules_any b l _).mono ?_; rintro e w1 ⟨rfl, hb⟩; have hb1 : Below W.heap.size W w1 := thn (alc0 W (.cells #[.int .i64 b, .int .i64 l] 33)) (by first | exact hb | exact (Below.refl _ _).drew.trans hb)) | (go_at_call 30; refine (HD.out _ (by first | exact hb1 | exact hb1.drew)).mono ?_; rintro e w2 ⟨rfl, hs2, ho2⟩))
  all_goals go_wp2
  all_goals
    go_ret
    exact HL.out _ _ (by first | exact hb1 | exact hb1.drew) hs2 ho2
theorem SomeR.only {n f m : Int} {r r' : Bool} (h : SomeR n f m ws r) (k : SomeR n f m ws r') : r = r' := by
  unfold SomeR at h k
  rw [Bool.eq_iff_iff, h, k]
theorem ptsome (b l : Int) (r : Bool) (h : PtIs lo hi g p W c ws) (hr : SomeR 16384 (spF b l 16) (spN b l 16) ws r) (ht : TzTab W) :
    Calls Tryd.prog 62 #[.pointer (some ⟨p, 0, none⟩), .agg #[.int .i64 b, .int .i64 l]] W fun e w' => e = .returned (.bool r) ∧ Below W.heap.size W w' := by
  have HH := Lib.hid h
  have HD := Lib.hid (fun (w1 : World) (hb : Below W.heap.size W w1) => (ssome_any lo hi g w1 16384 c (spF b l 16) (spN b l 16) ws (HH.out.below hb HH.out.2.1.2 hb.size).1 (ht.later hb)).mono (fun e w' q => show e = .returned (.bool r) ∧ w1 = w' from by
    obtain ⟨q1, r', q2, q3⟩ := q
    exact ⟨by rw [q2, SomeR.only q3 hr], q1⟩))
  have HS := Lib.hid (fun (w1 : World) (hb : Below W.heap.size W w1) => ptset (W := w1) (HH.out.below hb HH.out.2.1.2 hb.size))
  clear h hr ht
  go_enter Tryd.func62, Tryd.ntmps62
  go_upto_region 1 with (fail)
  go_region_with (first | (go_at_call 29; refine (HS.out _ (by first | exact (alc0 _ _).drew | exact alc0 _ _)).mono ?_; rintro e w' ⟨rfl, rfl⟩) | (go_at_call 31; refine (granules_any b l _).mono ?_; rintro e w1 ⟨rfl, hb⟩; have hb1 : Below W.heap.size W w1 := thn (alc0 W (.cells #[.int .i64 b, .int .i64 l] 33)) (by first | exact hb | exact (Below.refl _ _).drew.trans hb)) | (go_at_call 68; refine (HD.out _ (by first | exact hb1 | exact hb1.drew)).mono ?_; rintro e w2 ⟨rfl, rfl⟩))
  all_goals go_wp2
  all_goals
    go_ret
    exact ⟨rfl, by first | exact hb1 | exact hb1.drew⟩
end
theorem put_zero_bits (f n y : Nat) (h : f + n ≤ 16384) : bitB (putN (List.replicate 256 0) f n).1 y = decide (f ≤ y ∧ y < f + n) := by
  rw [putN_bits _ _ _ _ (by rw [List.length_replicate]; omega), bitB_none, Bool.false_or]
theorem put_zero_count (f n : Nat) (h : f + n ≤ 16384) : (putN (List.replicate 256 0) f n).2 = n := putN_count _ _ _ (by rw [List.length_replicate]; omega) (fun y _ _ => bitB_none 256 y)
theorem some_true {f m : Int} {ws : List Nat} (y : Nat) (h0 : 0 ≤ f) (h1 : f ≤ y) (h2 : (y : Int) < f + m) (h3 : f < 16384) (h4 : f + m ≤ 16384) (hb : bitB ws y = true) : SomeR 16384 f m ws true := by
  unfold SomeR sendI
  rw [if_pos (by omega)]
  exact ⟨fun _ => ⟨h0, y, h1, by omega, hb⟩, fun _ => rfl⟩
theorem some_false {f m : Int} {ws : List Nat} (h : ∀ y : Nat, f ≤ y → (y : Int) < f + m → bitB ws y = false) : SomeR 16384 f m ws false := by
  unfold SomeR sendI
  refine ⟨fun q => (by cases q), ?_⟩
  rintro ⟨_, y, y1, y2, y3⟩
  split at y2
  · rw [h y y1 (by omega)] at y3; exact y3
  · omega
end Go.Proofs.YtljjcomedjdpaaaDoor

