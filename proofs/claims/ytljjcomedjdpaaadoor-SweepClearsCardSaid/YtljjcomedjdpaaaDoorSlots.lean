/- Contracts of package slots. -/
import Derived.Test.YtljjcomedjdpaaaDoorSetK
import Derived.Test.YtljjcomedjdpaaaDoorSetB
import Derived.Test.YtljjcomedjdpaaaDoorSpanG
import Derived.Deep.RegionWith
namespace Go.Proofs.YtljjcomedjdpaaaDoor
set_option maxRecDepth 100000
open Go.RowKit
set_option linter.unusedVariables false
set_option linter.unusedSimpArgs false

/-- Slots at block p: the set at g, in memory from lo on, below hi, says in which granules something is kept: c of them. -/
def SlIs (lo hi g p : Nat) (W : World) (c : Int) (ws : List Nat) : Prop :=
  SetIs lo hi g W 16384 c ws ∧ (hi ≤ p ∧ p < W.heap.size) ∧ (0 ≤ c ∧ c ≤ 16384) ∧ W.cell? ⟨p, 0, none⟩ = some (.pointer (some ⟨g, 0, none⟩))
theorem SlIs.keep {lo hi g p : Nat} {W W' : World} {c : Int} {ws : List Nat} (h : SlIs lo hi g p W c ws) (hs : W.heap.size ≤ W'.heap.size) (hk : ∀ i, lo ≤ i → i ≤ p → W'.heap[i]? = W.heap[i]?) : SlIs lo hi g p W' c ws := by
  obtain ⟨h1, ⟨h2, h3⟩, h4, h5⟩ := h
  have hl : lo ≤ p := by have := h1.1; omega
  exact ⟨h1.keep hs (fun i i1 i2 => hk i i1 (by omega)), ⟨h2, by omega⟩, h4, (World.cell?_of_block (hk p hl (Nat.le_refl _))).trans h5⟩
theorem SlIs.below {lo hi g p B : Nat} {W W' : World} {c : Int} {ws : List Nat} (h : SlIs lo hi g p W c ws) (hb : Below B W W') (hB : p < B) (hs : W.heap.size ≤ W'.heap.size) : SlIs lo hi g p W' c ws :=
  h.keep hs fun i _ hi => hb.block i (by omega)
theorem SlIs.of_only {lo hi g p : Nat} {W W' : World} {c c' : Int} {ws ws' : List Nat} (h : SlIs lo hi g p W c ws) (k : SetIs lo hi g W' 16384 c' ws') (ho : Only lo hi W W') (hc : 0 ≤ c' ∧ c' ≤ 16384) : SlIs lo hi g p W' c' ws' := by
  obtain ⟨h1, ⟨h2, h3⟩, h4, h5⟩ := h
  exact ⟨k, ⟨h2, by rw [ho.2.1]; exact h3⟩, hc, (World.cell?_of_block (ho.2.2 p h2)).trans h5⟩

def SlNewPost (W : World) (e : Ending) (w' : World) : Prop :=
  ∃ g p, e = .returned (.pointer (some ⟨p, 0, none⟩)) ∧ SlIs W.heap.size p g p w' 0 (List.replicate 256 0) ∧ Below W.heap.size W w'
theorem slnew_any (W : World) :
    Calls Tryd.prog 46 #[] W (SlNewPost W) := by
  go_enter Tryd.func46, Tryd.ntmps46
  go_wp2_with fail
  refine (snew_any 16384 16384 _ (by decide)).mono ?_
  rintro e v1 ⟨g, rfl, hs, hb1⟩
  rw [show (((16384 : Int) + 63) / 64).toNat = 256 by decide] at hs
  have HS := Lib.hid hs; clear hs
  go_wp2_with fail
  go_ret
  exact ⟨g, v1.heap.size, rfl, ⟨HS.out.keep (by simp) (fun i _ hi => heap_old _ _ _ hi), ⟨Nat.le_refl _, by simp⟩, by omega, by simp⟩, alc hb1 _⟩

section
variable {lo hi g p : Nat} {W : World} {c : Int} {ws : List Nat}

theorem slhas (r : Bool) (x : Int) (h : SlIs lo hi g p W c ws) (hr : (decide (0 ≤ x ∧ x < 16384) && bitB ws x.toNat) = r) :
    Calls Tryd.prog 33 #[.pointer (some ⟨p, 0, none⟩), .int .i64 x] W fun e w' => e = .returned (.bool r) ∧ W = w' := by
  obtain ⟨h1, _, _, h5⟩ := h
  have H := Lib.hid h1; clear h1
  have HR := Lib.hid hr; clear hr
  go_enter Tryd.func33, Tryd.ntmps33
  go_wp2_with fail
  refine (shas_is r _ _ _ _ _ _ _ _ H.out HR.out).mono ?_
  rintro e w' ⟨rfl, rfl⟩
  go_wp2
  go_ret
  exact ⟨rfl, rfl⟩
theorem slnext (x : Int) (h : SlIs lo hi g p W c ws) (ht : TzTab W) :
    Calls Tryd.prog 65 #[.pointer (some ⟨p, 0, none⟩), .int .i64 x] W (FirstPost ws 16384 x W) := by
  obtain ⟨h1, _, _, h5⟩ := h
  have H := Lib.hid h1; clear h1
  have T := Lib.hid ht; clear ht
  go_enter Tryd.func65, Tryd.ntmps65
  go_wp2_with fail
  refine (sfirst_any _ _ _ _ _ _ _ _ H.out T.out).mono ?_
  rintro e w' ⟨rfl, r, rfl, q1, q2⟩
  have Q1 := Lib.hid q1; have Q2 := Lib.hid q2
  clear q1 q2
  go_wp2
  go_ret
  exact ⟨rfl, r, rfl, Q1.out, Q2.out⟩

/-- The set behind a number that is put in, or taken out. -/
def KeepPost (lo hi g p : Nat) (W : World) (c : Int) (ws : List Nat) (x : Nat) (e : Ending) (w' : World) : Prop :=
  ∃ (c' : Int) (ws' : List Nat), e = .returned (.bool true) ∧ SlIs lo hi g p w' c' ws' ∧ Only lo hi W w' ∧ (bitB ws x = true → c' = c) ∧ (bitB ws x = false → c' = c + 1) ∧ ws'.length = ws.length ∧ ∀ y, bitB ws' y = (bitB ws y || decide (x = y))
theorem slkeep (x : Nat) (h : SlIs lo hi g p W c ws) (hx : x < 16384) (hc : c < 16384) :
    Calls Tryd.prog 50 #[.pointer (some ⟨p, 0, none⟩), .int .i64 x] W (KeepPost lo hi g p W c ws x) := by
  have HH := Lib.hid h
  obtain ⟨h1, ⟨h2, h3⟩, h4, h5⟩ := h
  have H := Lib.hid h1; clear h1
  go_enter Tryd.func50, Tryd.ntmps50
  go_wp2_with fail
  refine (sput_any lo hi g _ 16384 c x ws H.out (by omega) (by omega)).mono ?_
  rintro e v2 ⟨c', ws', rfl, hs2, ho2, c1, c2, e1, e2, e3, e4⟩
  have k5 : v2.cell? ⟨p, 0, none⟩ = some (.pointer (some ⟨g, 0, none⟩)) := (World.cell?_of_block (ho2.2.2 p h2)).trans h5
  have HS2 := Lib.hid hs2; have HO := Lib.hid ho2; have HE := Lib.hid (And.intro e1 (And.intro e2 (And.intro e3 e4)))
  clear hs2 ho2 e1 e2 e3 e4
  go_wp2_with fail
  refine (shas_is true lo hi g _ 16384 c' x ws' HS2.out (by rw [Int.toNat_natCast, HE.out.2.2.2, decide_eq_true rfl, Bool.or_true, Bool.and_true]; exact decide_eq_true (by omega))).mono ?_
  rintro e w' ⟨rfl, rfl⟩
  go_wp2
  go_ret
  exact ⟨c', ws', rfl, HH.out.of_only HS2.out HO.out (by omega), HO.out, HE.out⟩
theorem slkeep_no (x : Int) (h : SlIs lo hi g p W c ws) (hx : ¬ (0 ≤ x ∧ x < 16384)) :
    Calls Tryd.prog 50 #[.pointer (some ⟨p, 0, none⟩), .int .i64 x] W fun e w' => e = .returned (.bool false) ∧ W = w' := by
  obtain ⟨h1, ⟨h2, h3⟩, h4, h5⟩ := h
  have H := Lib.hid h1; clear h1
  have HX := Lib.hid hx; clear hx
  go_enter Tryd.func50, Tryd.ntmps50
  go_wp2_with fail
  refine (sput_no lo hi g _ 16384 c x ws H.out (.inl HX.out)).mono ?_
  rintro e w' ⟨rfl, rfl⟩
  go_wp2_with fail
  refine (shas_is false lo hi g _ 16384 c x ws H.out (by rw [decide_eq_false HX.out]; rfl)).mono ?_
  rintro e w' ⟨rfl, rfl⟩
  go_wp2
  go_ret
  exact ⟨rfl, rfl⟩
def ClearPost (lo hi g p : Nat) (W : World) (c : Int) (ws : List Nat) (x : Nat) (e : Ending) (w' : World) : Prop :=
  ∃ (c' : Int) (ws' : List Nat), e = .returned (.bool (bitB ws x)) ∧ SlIs lo hi g p w' c' ws' ∧ Only lo hi W w' ∧ (bitB ws x = true → c' = c - 1) ∧ (bitB ws x = false → c' = c) ∧ ws'.length = ws.length ∧ ∀ y, bitB ws' y = (bitB ws y && !decide (x = y))
theorem slclear (x : Nat) (h : SlIs lo hi g p W c ws) (hx : x < 16384) (hc : bitB ws x = true → 1 ≤ c) :
    Calls Tryd.prog 78 #[.pointer (some ⟨p, 0, none⟩), .int .i64 x] W (ClearPost lo hi g p W c ws x) := by
  have HH := Lib.hid h
  obtain ⟨h1, ⟨h2, h3⟩, h4, h5⟩ := h
  have H := Lib.hid h1; clear h1
  have HC := Lib.hid hc; clear hc
  go_enter Tryd.func78, Tryd.ntmps78
  go_wp2_with fail
  refine (sdrop_any lo hi g _ 16384 c x ws H.out (by omega) ⟨by omega, HC.out⟩).mono ?_
  rintro e v2 ⟨c', ws', rfl, hs2, ho2, c1, c2, e1, e2, e3, e4⟩
  have hc' : 0 ≤ c' := by
    cases hb : bitB ws x with
    | true => have := HC.out hb; omega
    | false => rw [e2 hb]; exact h4.1
  have HS2 := Lib.hid hs2; have HO := Lib.hid ho2; have HE := Lib.hid (And.intro e1 (And.intro e2 (And.intro e3 e4)))
  clear hs2 ho2 e1 e2 e3 e4
  generalize hB : bitB ws x = B at *
  have HB := Lib.hid hB; clear hB
  go_wp2
  go_ret
  exact ⟨c', ws', by rw [HB.out]; rfl, HH.out.of_only HS2.out HO.out (by omega), HO.out, by rw [HB.out]; exact HE.out⟩

theorem spG {b l : Int} (h : mayB b l = true) : spF b l 16 = b / 16 ∧ spN b l 16 = (b + l - 1) / 16 - b / 16 + 1 := by
  obtain ⟨h1, h2, h3, h4⟩ := mayB_iff.1 h
  rw [spF, spN, if_pos h, if_pos h, downI, if_neg (by omega), partsI, if_neg (by omega)]
  omega
theorem wrote_end {lo hi g p : Nat} {W w1 w2 : World} {c c' : Int} {ws ws' : List Nat} (h : SlIs lo hi g p W c ws) (hb : Below W.heap.size W w1) (hs2 : SetIs lo hi g w2 16384 c' ws') (ho : Only lo hi w1 w2) (hc : 0 ≤ c' ∧ c' ≤ 16384) :
    SlIs lo hi g p w2 c' ws' ∧ Below lo W w2 ∧ (∀ i, p < i → i < W.heap.size → w2.heap[i]? = W.heap[i]?) ∧ W.heap.size ≤ w2.heap.size := by
  have h1 := h.below hb h.2.1.2 hb.size
  have hl : lo ≤ W.heap.size := by have := h.1.1; omega
  refine ⟨h1.of_only hs2 ho hc, (hb.mono hl).trans ho.1, fun i i1 i2 => (ho.2.2 i (by have := h.2.1.1; omega)).trans (hb.block i i2), by rw [ho.2.1]; exact hb.size⟩
def WrotePost (lo hi g p : Nat) (W : World) (c : Int) (ws : List Nat) (b l : Int) (e : Ending) (w' : World) : Prop :=
  e = .returned (.int .i64 (dropN ws (spF b l 16).toNat (sJ 16384 (spF b l 16) (spN b l 16))).2) ∧ SlIs lo hi g p w' (c - (dropN ws (spF b l 16).toNat (sJ 16384 (spF b l 16) (spN b l 16))).2) (dropN ws (spF b l 16).toNat (sJ 16384 (spF b l 16) (spN b l 16))).1 ∧ Below lo W w' ∧ (∀ i, p < i → i < W.heap.size → w'.heap[i]? = W.heap[i]?) ∧ W.heap.size ≤ w'.heap.size
set_option maxHeartbeats 1600000 in
theorem slwrote (b l : Int) (h : SlIs lo hi g p W c ws) (hc : (dropN ws (spF b l 16).toNat (sJ 16384 (spF b l 16) (spN b l 16))).2 ≤ c) :
    Calls Tryd.prog 82 #[.pointer (some ⟨p, 0, none⟩), .agg #[.int .i64 b, .int .i64 l]] W (WrotePost lo hi g p W c ws b l) := by
  have HH := Lib.hid h
  obtain ⟨h1, ⟨h2, h3⟩, h4, h5⟩ := h
  have HC := Lib.hid hc; clear hc h1
  go_enter Tryd.func82, Tryd.ntmps82
  have HD := Lib.hid (fun (w1 : World) (hb : Below W.heap.size W w1) => sdropall lo hi g w1 16384 c (spF b l 16) (spN b l 16) ws (HH.out.below hb HH.out.2.1.2 hb.size).1 ⟨HC.out, by omega⟩)
  have HL : Hid (∀ w1 w2 : World, Below W.heap.size W w1 → (dropN ws (spF b l 16).toNat (sJ 16384 (spF b l 16) (spN b l 16))).2 ≤ c → SetIs lo hi g w2 16384 (c - (dropN ws (spF b l 16).toNat (sJ 16384 (spF b l 16) (spN b l 16))).2) (dropN ws (spF b l 16).toNat (sJ 16384 (spF b l 16) (spN b l 16))).1 → Only lo hi w1 w2 → WrotePost lo hi g p W c ws b l (.returned (.int .i64 (dropN ws (spF b l 16).toNat (sJ 16384 (spF b l 16) (spN b l 16))).2)) w2) :=
    Lib.hid (fun w1 w2 hb hd hs2 ho => ⟨rfl, wrote_end HH.out hb hs2 ho (by have := (dropN_bd ws (spF b l 16).toNat (sJ 16384 (spF b l 16) (spN b l 16))).1; omega)⟩)
  generalize (dropN ws (spF b l 16).toNat (sJ 16384 (spF b l 16) (spN b l 16))).1 = ws' at *
  generalize (dropN ws (spF b l 16).toNat (sJ 16384 (spF b l 16) (spN b l 16))).2 = d at *
  have k0 : (W.alloc (.cells #[.int .i64 b, .int .i64 l] 33)).cell? ⟨p, 0, none⟩ = some (.pointer (some ⟨g, 0, none⟩)) := by rw [World.cell?_alloc_lt _ _ _ h3]; exact h5
  go_upto_region 3 with (fail)
  go_region_with (first | (go_at_call 31; refine (granules_any b l _).mono ?_; rintro e w1 ⟨rfl, hb⟩; have hb1 : Below W.heap.size W w1 := thn (alc0 W (.cells #[.int .i64 b, .int .i64 l] 33)) (by first | exact hb | exact (Below.refl _ _).drew.trans hb); have k5 : w1.cell? ⟨p, 0, none⟩ = some (.pointer (some ⟨g, 0, none⟩)) := (hb1.cell h3).trans h5) | (go_at_call 92; refine (HD.out _ (by first | exact hb1 | exact hb1.drew)).mono ?_; rintro e w2 ⟨rfl, hs2, ho2⟩))
  all_goals go_wp2
  all_goals
    go_ret
    exact HL.out _ _ (by first | exact hb1 | exact hb1.drew) HC.out hs2 ho2
end
end Go.Proofs.YtljjcomedjdpaaaDoor

