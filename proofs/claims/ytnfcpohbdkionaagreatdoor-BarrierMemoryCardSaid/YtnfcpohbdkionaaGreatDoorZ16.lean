/- Slots, Tags. -/
import Derived.Test.YtnfcpohbdkionaaGreatDoorZ12
import Derived.Test.YtnfcpohbdkionaaGreatDoorZ13
import Derived.Test.YtnfcpohbdkionaaGreatDoorZ01
import Derived.Deep.RegionWith
import Derived.Test.YtnfcpohbdkionaaGreatDoorRows
import Derived.WalkKit
import Derived.ProofKit
import Derived.OpenShut
import Derived.Lib.Hide
import Derived.Deep.WholeRow
import Derived.WalkLawsBesides
import Derived.WalkSpells
import Derived.Deep.QuietTactic
import Derived.BigQuiet
import Derived.WalkSmall
import Derived.Laws.BitsAllLaws
import Derived.Laws.Tables
import Derived.RegionTactic
import Derived.ChangeAlike
import Derived.BigRegion
namespace Go.Proofs.YtnfcpohbdkionaaGreatDoor
set_option maxRecDepth 100000
open Go.RowKit
set_option linter.unusedVariables false
set_option linter.unusedSimpArgs false
/-- Slots at block p: the set at g, in memory from lo on, below hi, says in which granules something is kept: c of them. -/
def SlIs (lo hi g p : Nat) (W : World) (c : Int) (ws : List Nat) : Prop :=
  SetIs lo hi g W 16384 c ws ∧ (hi ≤ p ∧ p < W.heap.size) ∧ (0 ≤ c ∧ c ≤ 16384) ∧ W.cell? ⟨p, 0, none⟩ = some (.pointer (some ⟨g, 0, none⟩))
theorem SlIs.keep {lo hi g p : Nat} {W W' : World} {c : Int} {ws : List Nat} (h : SlIs lo hi g p W c ws) (hs : W.heap.size ≤ W'.heap.size) (hk : ∀ i, lo ≤ i → i ≤ p → W'.heap[i]? = W.heap[i]?) : SlIs lo hi g p W' c ws := by
  obtain ⟨h1, ⟨h2, h3⟩, h4, h5⟩ := h
  have hl : lo ≤ p := by have := h1.1; omega
  exact ⟨h1.keep hs (fun i i1 i2 => hk i i1 (by omega)), ⟨h2, by omega⟩, h4, (World.cell?_of_block (hk p hl (Nat.le_refl _))).trans h5⟩
theorem SlIs.below {lo hi g p B : Nat} {W W' : World} {c : Int} {ws : List Nat} (h : SlIs lo hi g p W c ws) (hb : Below B W W') (hB : p < B) (hs : W.heap.size ≤ W'.heap.size) : SlIs lo hi g p W' c ws :=
  h.keep hs fun i _ hi => hb.block i (by omega)
theorem SlIs.of_only {lo hi g p : Nat} {W W' : World} {c c' : Int} {ws ws' : List Nat} (h : SlIs lo hi g p W c ws) (k : SetIs lo hi g W' 16384 c' ws') (ho : Only lo hi W W') (hc : 0 ≤ c' ∧ c' ≤ 16384) : SlIs lo hi g p W' c' ws' := by
  obtain ⟨h1, ⟨h2, h3⟩, h4, h5⟩ := h
  exact ⟨k, ⟨h2, by rw [ho.2.1]; exact h3⟩, hc, (World.cell?_of_block (ho.2.2 p h2)).trans h5⟩
def SlNewPost (W : World) (e : Ending) (w' : World) : Prop :=
  ∃ g p, e = .returned (.pointer (some ⟨p, 0, none⟩)) ∧ SlIs W.heap.size p g p w' 0 (List.replicate 256 0) ∧ Below W.heap.size W w'
theorem slnew_any (W : World) :
    Calls Tryz.prog 46 #[] W (SlNewPost W) := by
  go_enter Tryz.func46, Tryz.ntmps46
  go_wp2_with fail
  refine (snew_any 16384 16384 _ (by decide)).mono ?_
  rintro e v1 ⟨g, rfl, hs, hb1⟩
  rw [show (((16384 : Int) + 63) / 64).toNat = 256 by decide] at hs
  have HS := Lib.hid hs; clear hs
  go_wp2_with fail
  go_ret
  exact ⟨g, v1.heap.size, rfl, ⟨HS.out.keep (by simp) (fun i _ hi => heap_old _ _ _ hi), ⟨Nat.le_refl _, by simp⟩, by omega, by simp⟩, alc hb1 _⟩
section
variable {lo hi g p : Nat} {W : World} {c : Int} {ws : List Nat}
theorem slcount (h : SlIs lo hi g p W c ws) :
    Calls Tryz.prog 57 #[.pointer (some ⟨p, 0, none⟩)] W fun e w' => e = .returned (.int .i64 c) ∧ W = w' := by
  obtain ⟨h1, _, _, h5⟩ := h
  have H := Lib.hid h1; clear h1
  go_enter Tryz.func57, Tryz.ntmps57
  go_wp2_with fail
  refine (scount_any _ _ _ _ _ _ _ H.out).mono ?_
  rintro e w' ⟨rfl, rfl⟩
  go_wp2
  go_ret
  exact ⟨rfl, rfl⟩
theorem slhas (r : Bool) (x : Int) (h : SlIs lo hi g p W c ws) (hr : (decide (0 ≤ x ∧ x < 16384) && bitB ws x.toNat) = r) :
    Calls Tryz.prog 59 #[.pointer (some ⟨p, 0, none⟩), .int .i64 x] W fun e w' => e = .returned (.bool r) ∧ W = w' := by
  obtain ⟨h1, _, _, h5⟩ := h
  have H := Lib.hid h1; clear h1
  have HR := Lib.hid hr; clear hr
  go_enter Tryz.func59, Tryz.ntmps59
  go_wp2_with fail
  refine (shas_is r _ _ _ _ _ _ _ _ H.out HR.out).mono ?_
  rintro e w' ⟨rfl, rfl⟩
  go_wp2
  go_ret
  exact ⟨rfl, rfl⟩
theorem slnext (x : Int) (h : SlIs lo hi g p W c ws) (ht : TzTab W) :
    Calls Tryz.prog 58 #[.pointer (some ⟨p, 0, none⟩), .int .i64 x] W (FirstPost ws 16384 x W) := by
  obtain ⟨h1, _, _, h5⟩ := h
  have H := Lib.hid h1; clear h1
  have T := Lib.hid ht; clear ht
  go_enter Tryz.func58, Tryz.ntmps58
  go_wp2_with fail
  refine (sfirst_any _ _ _ _ _ _ _ _ H.out T.out).mono ?_
  rintro e w' ⟨rfl, r, rfl, q1, q2⟩
  have Q1 := Lib.hid q1; have Q2 := Lib.hid q2
  clear q1 q2
  go_wp2
  go_ret
  exact ⟨rfl, r, rfl, Q1.out, Q2.out⟩
/-- The set behind a number that is put in, or taken out. -/
def KeepPost (lo hi g p : Nat) (W : World) (c : Int) (ws : List Nat) (x : Nat) (e : Ending) (w' : World) : Prop :=
  ∃ (c' : Int) (ws' : List Nat), e = .returned (.bool true) ∧ SlIs lo hi g p w' c' ws' ∧ Only lo hi W w' ∧ (bitB ws x = true → c' = c) ∧ (bitB ws x = false → c' = c + 1) ∧ ws'.length = ws.length ∧ ∀ y, bitB ws' y = (bitB ws y || decide (x = y))
theorem slkeep (x : Nat) (h : SlIs lo hi g p W c ws) (hx : x < 16384) (hc : c < 16384) :
    Calls Tryz.prog 69 #[.pointer (some ⟨p, 0, none⟩), .int .i64 x] W (KeepPost lo hi g p W c ws x) := by
  have HH := Lib.hid h
  obtain ⟨h1, ⟨h2, h3⟩, h4, h5⟩ := h
  have H := Lib.hid h1; clear h1
  go_enter Tryz.func69, Tryz.ntmps69
  go_wp2_with fail
  refine (sput_any lo hi g _ 16384 c x ws H.out (by omega) (by omega)).mono ?_
  rintro e v2 ⟨c', ws', rfl, hs2, ho2, c1, c2, e1, e2, e3, e4⟩
  have k5 : v2.cell? ⟨p, 0, none⟩ = some (.pointer (some ⟨g, 0, none⟩)) := (World.cell?_of_block (ho2.2.2 p h2)).trans h5
  have HS2 := Lib.hid hs2; have HO := Lib.hid ho2; have HE := Lib.hid (And.intro e1 (And.intro e2 (And.intro e3 e4)))
  clear hs2 ho2 e1 e2 e3 e4
  go_wp2_with fail
  refine (shas_is true lo hi g _ 16384 c' x ws' HS2.out (by rw [Int.toNat_natCast, HE.out.2.2.2, decide_eq_true rfl, Bool.or_true, Bool.and_true]; exact decide_eq_true (by omega))).mono ?_
  rintro e w' ⟨rfl, rfl⟩
  go_wp2
  go_ret
  exact ⟨c', ws', rfl, HH.out.of_only HS2.out HO.out (by omega), HO.out, HE.out⟩
theorem spG {b l : Int} (h : mayB b l = true) : spF b l 16 = b / 16 ∧ spN b l 16 = (b + l - 1) / 16 - b / 16 + 1 := by
  obtain ⟨h1, h2, h3, h4⟩ := mayB_iff.1 h
  rw [spF, spN, if_pos h, if_pos h, downI, if_neg (by omega), partsI, if_neg (by omega)]
  omega
theorem wrote_end {lo hi g p : Nat} {W w1 w2 : World} {c c' : Int} {ws ws' : List Nat} (h : SlIs lo hi g p W c ws) (hb : Below W.heap.size W w1) (hs2 : SetIs lo hi g w2 16384 c' ws') (ho : Only lo hi w1 w2) (hc : 0 ≤ c' ∧ c' ≤ 16384) :
    SlIs lo hi g p w2 c' ws' ∧ Below lo W w2 ∧ (∀ i, p < i → i < W.heap.size → w2.heap[i]? = W.heap[i]?) ∧ W.heap.size ≤ w2.heap.size := by
  have h1 := h.below hb h.2.1.2 hb.size
  have hl : lo ≤ W.heap.size := by have := h.1.1; omega
  refine ⟨h1.of_only hs2 ho hc, (hb.mono hl).trans ho.1, fun i i1 i2 => (ho.2.2 i (by have := h.2.1.1; omega)).trans (hb.block i i2), by rw [ho.2.1]; exact hb.size⟩
def WrotePost (lo hi g p : Nat) (W : World) (c : Int) (ws : List Nat) (b l : Int) (e : Ending) (w' : World) : Prop :=
  e = .returned (.int .i64 (dropN ws (spF b l 16).toNat (sJ 16384 (spF b l 16) (spN b l 16))).2) ∧ SlIs lo hi g p w' (c - (dropN ws (spF b l 16).toNat (sJ 16384 (spF b l 16) (spN b l 16))).2) (dropN ws (spF b l 16).toNat (sJ 16384 (spF b l 16) (spN b l 16))).1 ∧ Below lo W w' ∧ (∀ i, p < i → i < W.heap.size → w'.heap[i]? = W.heap[i]?) ∧ W.heap.size ≤ w'.heap.size
set_option maxHeartbeats 1600000 in
theorem slwrote (b l : Int) (h : SlIs lo hi g p W c ws) (hc : (dropN ws (spF b l 16).toNat (sJ 16384 (spF b l 16) (spN b l 16))).2 ≤ c) :
    Calls Tryz.prog 96 #[.pointer (some ⟨p, 0, none⟩), .agg #[.int .i64 b, .int .i64 l]] W (WrotePost lo hi g p W c ws b l) := by
  have HH := Lib.hid h
  obtain ⟨h1, ⟨h2, h3⟩, h4, h5⟩ := h
  have HC := Lib.hid hc; clear hc h1
  go_enter Tryz.func96, Tryz.ntmps96
  have HD := Lib.hid (fun (w1 : World) (hb : Below W.heap.size W w1) => sdropall lo hi g w1 16384 c (spF b l 16) (spN b l 16) ws (HH.out.below hb HH.out.2.1.2 hb.size).1 ⟨HC.out, by omega⟩)
  have HL : Hid (∀ w1 w2 : World, Below W.heap.size W w1 → (dropN ws (spF b l 16).toNat (sJ 16384 (spF b l 16) (spN b l 16))).2 ≤ c → SetIs lo hi g w2 16384 (c - (dropN ws (spF b l 16).toNat (sJ 16384 (spF b l 16) (spN b l 16))).2) (dropN ws (spF b l 16).toNat (sJ 16384 (spF b l 16) (spN b l 16))).1 → Only lo hi w1 w2 → WrotePost lo hi g p W c ws b l (.returned (.int .i64 (dropN ws (spF b l 16).toNat (sJ 16384 (spF b l 16) (spN b l 16))).2)) w2) :=
    Lib.hid (fun w1 w2 hb hd hs2 ho => ⟨rfl, wrote_end HH.out hb hs2 ho (by have := (dropN_bd ws (spF b l 16).toNat (sJ 16384 (spF b l 16) (spN b l 16))).1; omega)⟩)
  generalize (dropN ws (spF b l 16).toNat (sJ 16384 (spF b l 16) (spN b l 16))).1 = ws' at *
  generalize (dropN ws (spF b l 16).toNat (sJ 16384 (spF b l 16) (spN b l 16))).2 = d at *
  have k0 : (W.alloc (.cells #[.int .i64 b, .int .i64 l] 23)).cell? ⟨p, 0, none⟩ = some (.pointer (some ⟨g, 0, none⟩)) := by rw [World.cell?_alloc_lt _ _ _ h3]; exact h5
  go_upto_region 3 with (fail)
  go_region_with (first | (go_at_call 50; refine (granules_any b l _).mono ?_; rintro e w1 ⟨rfl, hb⟩; have hb1 : Below W.heap.size W w1 := thn (alc0 W (.cells #[.int .i64 b, .int .i64 l] 23)) (by first | exact hb | exact (Below.refl _ _).drew.trans hb); have k5 : w1.cell? ⟨p, 0, none⟩ = some (.pointer (some ⟨g, 0, none⟩)) := (hb1.cell h3).trans h5) | (go_at_call 111; refine (HD.out _ (by first | exact hb1 | exact hb1.drew)).mono ?_; rintro e w2 ⟨rfl, hs2, ho2⟩))
  all_goals go_wp2
  all_goals
    go_ret
    exact HL.out _ _ (by first | exact hb1 | exact hb1.drew) HC.out hs2 ho2
end
end Go.Proofs.YtnfcpohbdkionaaGreatDoor
namespace Go.Proofs.YtnfcpohbdkionaaGreatDoor
set_option maxRecDepth 100000
open Go.RowKit
def tagZ : Array Value := Array.replicate 8192 (.int .u8 0)
set_option maxRecDepth 1000000 in
theorem tagInfo : (Tryz.prog.info? 129).map (fun i => (i.zero, i.size)) = some (some (.agg tagZ), 8192) := by kernel_rfl
theorem tagSize : tagZ.size = 8192 := by simp [tagZ]
theorem tagOne : tagZ.all (·.oneCell') = true := by
  rw [Array.all_eq_true]
  intro i h
  simp [tagZ, Value.oneCell']
end Go.Proofs.YtnfcpohbdkionaaGreatDoor
namespace Go.Proofs.YtnfcpohbdkionaaGreatDoor
set_option maxRecDepth 100000
open Go.RowKit
set_option linter.unusedVariables false
set_option linter.unusedSimpArgs false
/-- Tags at block p: granule y has tag f y; two a byte. -/
def TagIs (p : Nat) (W : World) (f : Nat → Nat) : Prop :=
  p < W.heap.size ∧ (∀ y, f y < 16) ∧ ∀ i, i < 8192 → W.cell? ⟨p, i, none⟩ = some (.int .u8 ((f (2 * i) + 16 * f (2 * i + 1) : Nat) : Int)) ∧ W.frozen? ⟨p, i, none⟩ = false
theorem TagIs.keep {p : Nat} {W W' : World} {f : Nat → Nat} (h : TagIs p W f) (hs : W.heap.size ≤ W'.heap.size) (hk : W'.heap[p]? = W.heap[p]?) : TagIs p W' f := by
  obtain ⟨h1, h2, h3⟩ := h
  refine ⟨by omega, h2, fun i hi => ?_⟩
  obtain ⟨a, b⟩ := h3 i hi
  exact ⟨(World.cell?_of_block hk).trans a, (World.frozen?_of_block hk).trans b⟩
theorem TagIs.below {p : Nat} {W W' : World} {f : Nat → Nat} (h : TagIs p W f) (hb : Below W.heap.size W W') : TagIs p W' f := h.keep hb.size (hb.block p h.1)
def TNewPost (W : World) (e : Ending) (w' : World) : Prop :=
  e = .returned (.pointer (some ⟨W.heap.size, 0, none⟩)) ∧ TagIs W.heap.size w' (fun _ => 0) ∧ Below W.heap.size W w'
theorem tagAt (i : Nat) (h : i < 8192) : tagZ[i]? = some (.int .u8 0) := by simp [tagZ, h]
theorem tnew_any (W : World) :
    Calls Tryz.prog 45 #[] W (TNewPost W) := by
  obtain ⟨zv, zi⟩ := zero_of_info tagInfo
  have HZ := Lib.hid tagAt
  have hZs := tagSize
  have h1 := tagOne
  generalize tagZ = Z at *
  go_enter Tryz.func45, Tryz.ntmps45
  go_wp2_with fail
  go_ret
  refine ⟨rfl, ⟨by simp, fun _ => (by decide : 0 < 16), fun i hi => ⟨?_, by simp⟩⟩, alc0 _ _⟩
  rw [World.cell?_alloc_mark]
  exact HZ.out i hi
theorem tshift (x : Nat) (W : World) (hx : x < 16384) :
    Calls Tryz.prog 85 #[.int .i64 x] W fun e w' => e = .returned (.int .i64 (((x % 2 * 4 : Nat)) : Int)) ∧ W = w' := by
  have g1 : ((x : Int)).tmod 2 = ((x % 2 : Nat) : Int) := by rw [Int.tmod_eq_emod_of_nonneg (by omega)]; omega
  go_enter Tryz.func85, Tryz.ntmps85
  go_wp2
  go_ret
  exact ⟨ret_int (by omega), rfl⟩
theorem tshift_is (s : Int) (x : Nat) (W : World) (hx : x < 16384) (hs : ((x % 2 * 4 : Nat) : Int) = s) :
    Calls Tryz.prog 85 #[.int .i64 x] W fun e w' => e = .returned (.int .i64 s) ∧ W = w' := by
  subst hs; exact tshift x W hx
def thereT (g n : Int) : Prop := 0 ≤ g ∧ g < 16384 ∧ 1 ≤ n ∧ n ≤ 16384 - g
instance (f n : Int) : Decidable (thereT f n) := by unfold thereT; infer_instance
theorem tthere (f n : Int) (W : World) :
    Calls Tryz.prog 84 #[.int .i64 f, .int .i64 n] W fun e w' => e = .returned (.bool (decide (thereT f n))) ∧ W = w' := by
  have hd : decide (thereT f n) = decide (0 ≤ f ∧ f < 16384 ∧ 1 ≤ n ∧ n ≤ 16384 - f) := rfl
  have HD := Lib.hid hd; clear hd
  by_cases h1 : 0 ≤ f
  · by_cases h2 : f < 16384
    · by_cases h3 : 1 ≤ n
      · go_enter Tryz.func84, Tryz.ntmps84
        go_wp2
        go_ret
        exact ⟨ret_bool (by rw [HD.out, decide_eq_decide]; omega), rfl⟩
      · go_enter Tryz.func84, Tryz.ntmps84
        go_wp2
        go_ret
        exact ⟨ret_bool (by rw [HD.out]; exact (decide_eq_false (by omega)).symm), rfl⟩
    · go_enter Tryz.func84, Tryz.ntmps84
      go_wp2
      go_ret
      exact ⟨ret_bool (by rw [HD.out]; exact (decide_eq_false (by omega)).symm), rfl⟩
  · go_enter Tryz.func84, Tryz.ntmps84
    go_wp2
    go_ret
    exact ⟨ret_bool (by rw [HD.out]; exact (decide_eq_false (by omega)).symm), rfl⟩
theorem tthere_is (r : Bool) (f n : Int) (W : World) (hr : decide (thereT f n) = r) :
    Calls Tryz.prog 84 #[.int .i64 f, .int .i64 n] W fun e w' => e = .returned (.bool r) ∧ W = w' := by
  subst hr; exact tthere f n W
theorem tget_in (p : Nat) (x h : Nat) (f : Nat → Nat) (W : World) (H : TagIs p W f) (hx : x < 16384) (hp : x = 2 * h ∨ x = 2 * h + 1) :
    Calls Tryz.prog 63 #[.pointer (some ⟨p, 0, none⟩), .int .i64 x] W fun e w' => e = .returned (.int .i64 (f x : Nat)) ∧ ∃ q, w' = W.drewN q := by
  obtain ⟨k1, k2⟩ := H.2.2 h (by omega)
  have hf1 := H.2.1 (2 * h)
  have hf2 := H.2.1 (2 * h + 1)
  have g1 : ((x : Int)).tdiv 2 = (h : Int) := by rw [Int.tdiv_eq_ediv_of_nonneg (by omega)]; omega
  have g2 : (x : Int) / 2 = (h : Int) := by omega
  have g3 : (0 : Int) ≤ (h : Int) := by omega
  have g4 : (h : Int) < 8192 := by omega
  have g5 : (h : Int).toNat = h := Int.toNat_natCast h
  have HS := Lib.hid (fun (s : Int) (q : Nat) (hs : ((x % 2 * 4 : Nat) : Int) = s) => tshift_is s x (W.drewN q) hx hs)
  have HX := Lib.hid hp
  have HT : Hid (thereT x 1) := Lib.hid (by unfold thereT; omega)
  clear H
  rcases HX.out with rfl | rfl
  · generalize f (2 * h) = a at *
    generalize f (2 * h + 1) = b at *
    go_enter Tryz.func63, Tryz.ntmps63
    go_wp2_with fail
    refine (tthere_is true _ _ _ (decide_eq_true HT.out)).mono ?_
    rintro e w' ⟨rfl, rfl⟩
    go_wp2_with fail
    go_quiet (exact Calls.quiet_of_same ((HS.out 0 _ (by omega)).mono fun _ _ ⟨he, hm⟩ => ⟨he, hm.symm⟩))
    go_wp2
    go_ret
    exact ⟨ret_int (by omega), _, rfl⟩
  · generalize f (2 * h) = a at *
    generalize f (2 * h + 1) = b at *
    have g6 : (2 * (h : Int) + 1).tdiv 2 = (h : Int) := by rw [Int.tdiv_eq_ediv_of_nonneg (by omega)]; omega
    have g7 : (2 * (h : Int) + 1) / 2 = (h : Int) := by omega
    go_enter Tryz.func63, Tryz.ntmps63
    go_wp2_with fail
    refine (tthere_is true _ _ _ (decide_eq_true HT.out)).mono ?_
    rintro e w' ⟨rfl, rfl⟩
    go_wp2_with fail
    go_quiet (exact Calls.quiet_of_same ((HS.out 4 _ (by omega)).mono fun _ _ ⟨he, hm⟩ => ⟨he, hm.symm⟩))
    go_wp2
    go_ret
    exact ⟨ret_int (by omega), _, rfl⟩
end Go.Proofs.YtnfcpohbdkionaaGreatDoor
