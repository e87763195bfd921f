/- Set, SetN in one text: a claim holds at most 60 files. -/
import Derived.Test.YtljjcomedjdpaaaDoorRows
import Derived.Test.YtljjcomedjdpaaaDoorInt
import Derived.WalkKit
import Derived.ProofKit
import Derived.OpenShut
import Derived.WalkLawsBesides
import Derived.WalkSpells
import Derived.Lib.Hide
import Derived.RegionTactic
import Derived.ChangeAlike
import Derived.BigRegion
import Derived.Deep.QuietTactic
import Derived.BigQuiet
import Derived.Laws.BitsAllLaws
import Derived.Laws.MakeOwn
import Derived.Deep.DeepCutAuto
namespace Go.Proofs.YtljjcomedjdpaaaDoor
set_option maxRecDepth 100000
open Go.RowKit
set_option linter.unusedVariables false
set_option linter.unusedSimpArgs false

/-- A set at block g: of n numbers, c are counted, its words are ws; all its memory lies from lo on, below hi. -/
def SetIs (lo hi g : Nat) (W : World) (n c : Int) (ws : List Nat) : Prop :=
  (lo ≤ g ∧ g < hi ∧ hi ≤ W.heap.size) ∧ (0 ≤ n ∧ n ≤ 65536 ∧ n ≤ 64 * ws.length ∧ ws.length ≤ 1024) ∧ W.cell? ⟨g, 0, none⟩ = some (.int .i64 n) ∧ W.cell? ⟨g, 1, none⟩ = some (.int .i64 c) ∧ W.frozen? ⟨g, 1, none⟩ = false ∧
  ∃ gw cap, W.cell? ⟨g, 2, none⟩ = some (.slice (some ⟨gw, 0, none⟩) ws.length cap) ∧ lo ≤ gw ∧ gw < hi ∧ gw ≠ g ∧ ws.length ≤ cap ∧ cap ≤ 9223372036854775807 ∧
    (∀ i, i < ws.length → W.cell? ⟨gw, i, none⟩ = some (.int .u64 (ws.getD i 0 : Nat)) ∧ W.frozen? ⟨gw, i, none⟩ = false ∧ ws.getD i 0 < 18446744073709551616)

def bitB (ws : List Nat) (x : Nat) : Bool := (ws.getD (x / 64) 0).testBit (x % 64)

theorem SetIs.keep {lo hi g : Nat} {W W' : World} {n c : Int} {ws : List Nat} (h : SetIs lo hi g W n c ws) (hs : W.heap.size ≤ W'.heap.size) (hk : ∀ i, lo ≤ i → i < hi → W'.heap[i]? = W.heap[i]?) : SetIs lo hi g W' n c ws := by
  obtain ⟨⟨h1, h2, h3⟩, hn, c0, c1, f1, gw, cap, c2, g1, g2, g3, hc, hc2, hw⟩ := h
  have hg := hk g h1 h2
  have hgw := hk gw g1 g2
  refine ⟨⟨h1, h2, by omega⟩, hn, (World.cell?_of_block hg).trans c0, (World.cell?_of_block hg).trans c1, (World.frozen?_of_block hg).trans f1, gw, cap, (World.cell?_of_block hg).trans c2, g1, g2, g3, hc, hc2, fun i hi => ?_⟩
  obtain ⟨a, b, d⟩ := hw i hi
  exact ⟨(World.cell?_of_block hgw).trans a, (World.frozen?_of_block hgw).trans b, d⟩

theorem sroom_any (lo hi g : Nat) (W : World) (n c : Int) (ws : List Nat) (h : SetIs lo hi g W n c ws) :
    Calls Tryd.prog 87 #[.pointer (some ⟨g, 0, none⟩)] W fun e w' => e = .returned (.int .i64 n) ∧ W = w' := by
  obtain ⟨_, _, c0, _⟩ := h
  go_enter Tryd.func87, Tryd.ntmps87
  go_wp2
  go_ret
  exact ⟨rfl, rfl⟩
theorem sthere_any (lo hi g : Nat) (W : World) (n c x : Int) (ws : List Nat) (h : SetIs lo hi g W n c ws) :
    Calls Tryd.prog 73 #[.pointer (some ⟨g, 0, none⟩), .int .i64 x] W fun e w' => e = .returned (.bool (decide (0 ≤ x ∧ x < n))) ∧ W = w' := by
  have H := Lib.hid h; clear h
  by_cases h0 : 0 ≤ x
  · go_enter Tryd.func73, Tryd.ntmps73
    go_wp2_with fail
    refine (sroom_any _ _ _ _ _ _ _ H.out).mono ?_
    rintro e w' ⟨rfl, rfl⟩
    go_wp2
    go_ret
    exact ⟨ret_bool (by simp [h0]), rfl⟩
  · go_enter Tryd.func73, Tryd.ntmps73
    go_wp2
    go_ret
    exact ⟨ret_bool (by simp; omega), rfl⟩
theorem sthere_is (r : Bool) (lo hi g : Nat) (W : World) (n c x : Int) (ws : List Nat) (h : SetIs lo hi g W n c ws) (hr : decide (0 ≤ x ∧ x < n) = r) :
    Calls Tryd.prog 73 #[.pointer (some ⟨g, 0, none⟩), .int .i64 x] W fun e w' => e = .returned (.bool r) ∧ W = w' := by
  subst hr; exact sthere_any lo hi g W n c x ws h

theorem shas_out (lo hi g : Nat) (W : World) (n c x : Int) (ws : List Nat) (h : SetIs lo hi g W n c ws) (hx : ¬ (0 ≤ x ∧ x < n)) :
    Calls Tryd.prog 56 #[.pointer (some ⟨g, 0, none⟩), .int .i64 x] W fun e w' => e = .returned (.bool false) ∧ W = w' := by
  have H := Lib.hid h; clear h
  have HX := Lib.hid hx; clear hx
  go_enter Tryd.func56, Tryd.ntmps56
  go_wp2_with fail
  refine (sthere_is false _ _ _ _ _ _ _ _ H.out (decide_eq_false HX.out)).mono ?_
  rintro e w' ⟨rfl, rfl⟩
  go_wp2
  go_ret
  exact ⟨rfl, rfl⟩

theorem u64_bit (v i : Nat) (hv : v < 18446744073709551616) : (bits .and .u64 ((v : Int) / 2 ^ i) 1 == 1) = v.testBit i := by
  have e : ((v : Int) / 2 ^ i) = ((v / 2 ^ i : Nat) : Int) := by rw [Int.natCast_ediv]; simp
  have hlt : v / 2 ^ i < 18446744073709551616 := Nat.lt_of_le_of_lt (Nat.div_le_self _ _) hv
  have h := u64_and_nat (v / 2 ^ i) 1 hlt (by decide)
  rw [e, show ((1 : Int)) = ((1 : Nat) : Int) from rfl, h, Nat.and_one_is_mod, Nat.testBit_eq_decide_div_mod_eq]
  rw [Bool.eq_iff_iff]
  simp only [beq_iff_eq, decide_eq_true_eq]
  omega
theorem shas_in (lo hi g : Nat) (W : World) (n c : Int) (x : Nat) (ws : List Nat) (h : SetIs lo hi g W n c ws) (hx : (x : Int) < n) :
    Calls Tryd.prog 56 #[.pointer (some ⟨g, 0, none⟩), .int .i64 x] W fun e w' => e = .returned (.bool (bitB ws x)) ∧ W = w' := by
  have H := Lib.hid h
  obtain ⟨_, ⟨n0, n1, n2⟩, c0, c1, f1, gw, cap, c2, g1, g2, g3, hc, hc2, hw⟩ := h
  have hlt : x / 64 < ws.length := by omega
  obtain ⟨k1, k2, k3⟩ := hw (x / 64) hlt
  clear hw
  have hdef : bitB ws x = (ws.getD (x / 64) 0).testBit (x % 64) := rfl
  have HB := Lib.hid hdef; clear hdef
  generalize ws.getD (x / 64) 0 = v at *
  obtain ⟨L, hL⟩ : ∃ L, ws.length = L := ⟨_, rfl⟩
  rw [hL] at c2 hlt hc n2
  clear hL
  have x0 : (0 : Int) ≤ (x : Int) / 64 := by omega
  have x1 : (x : Int) / 64 < (L : Int) := by omega
  have x2 : ((x : Int) / 64).toNat = x / 64 := by omega
  have x3 : (0 : Int) ≤ (x : Int) % 64 := by omega
  have x4 : (x : Int) % 64 < 64 := by omega
  have x5 : ((x : Int) % 64).toNat = x % 64 := by omega
  go_enter Tryd.func56, Tryd.ntmps56
  go_wp2_with fail
  refine (sthere_is true _ _ _ _ _ _ _ _ H.out (decide_eq_true (by omega))).mono ?_
  rintro e w' ⟨rfl, rfl⟩
  go_wp2
  go_ret
  exact ⟨ret_bool (by rw [HB.out]; exact u64_bit v _ k3), rfl⟩

theorem shas_any (lo hi g : Nat) (W : World) (n c x : Int) (ws : List Nat) (h : SetIs lo hi g W n c ws) :
    Calls Tryd.prog 56 #[.pointer (some ⟨g, 0, none⟩), .int .i64 x] W fun e w' => e = .returned (.bool (decide (0 ≤ x ∧ x < n) && bitB ws x.toNat)) ∧ W = w' := by
  by_cases hx : 0 ≤ x ∧ x < n
  · obtain ⟨y, rfl⟩ := Int.eq_ofNat_of_zero_le hx.1
    have := shas_in lo hi g W n c y ws h hx.2
    simpa [hx.2] using this
  · have := shas_out lo hi g W n c x ws h hx
    simpa [hx] using this
theorem shas_is (r : Bool) (lo hi g : Nat) (W : World) (n c x : Int) (ws : List Nat) (h : SetIs lo hi g W n c ws) (hr : (decide (0 ≤ x ∧ x < n) && bitB ws x.toNat) = r) :
    Calls Tryd.prog 56 #[.pointer (some ⟨g, 0, none⟩), .int .i64 x] W fun e w' => e = .returned (.bool r) ∧ W = w' := by
  subst hr; exact shas_any lo hi g W n c x ws h

/-- Nothing outside a stretch of memory has changed, and none came. -/
def Only (lo hi : Nat) (W W' : World) : Prop := Below lo W W' ∧ W'.heap.size = W.heap.size ∧ ∀ i, hi ≤ i → W'.heap[i]? = W.heap[i]?
theorem Only.refl (lo hi : Nat) (W : World) : Only lo hi W W := ⟨Below.refl _ _, rfl, fun _ _ => rfl⟩
theorem Only.trans {lo hi : Nat} {a b c : World} (h : Only lo hi a b) (k : Only lo hi b c) : Only lo hi a c := ⟨h.1.trans k.1, k.2.1.trans h.2.1, fun i hi => (k.2.2 i hi).trans (h.2.2 i hi)⟩
theorem heap_other (W : World) (p : Addr) (v : Value) (i : Nat) (h : i ≠ p.block) : (W.setCell p v).heap[i]? = W.heap[i]? := Below.heap_setCell W p v i h
theorem size_set (W : World) (p : Addr) (v : Value) : (W.setCell p v).heap.size = W.heap.size := by simp [World.setCell]
theorem Only.set_ {lo hi : Nat} {a b : World} (h : Only lo hi a b) {p : Addr} (v : Value) (h1 : lo ≤ p.block) (h2 : p.block < hi) : Only lo hi a (b.setCell p v) :=
  ⟨h.1.setCell h1 v, (size_set b p v).trans h.2.1, fun i hi => (heap_other b p v i (by omega)).trans (h.2.2 i hi)⟩
theorem Only.drew {lo hi : Nat} {a b : World} (h : Only lo hi a b) : Only lo hi a b.drew := ⟨h.1.drew, h.2.1, h.2.2⟩

theorem or_lt {v i : Nat} (hv : v < 18446744073709551616) (hi : i < 64) : v ||| 2 ^ i < 18446744073709551616 ∧ 2 ^ i < 18446744073709551616 := by
  have h2 : 2 ^ i < 2 ^ 64 := Nat.pow_lt_pow_right (by decide) hi
  exact ⟨Nat.or_lt_two_pow (n := 64) (by omega) h2, by omega⟩

theorem set_upd {lo hi g gw cap : Nat} {W : World} {n c : Int} {ws : List Nat} (hg : lo ≤ g ∧ g < hi ∧ hi ≤ W.heap.size) (hn : 0 ≤ n ∧ n ≤ 65536 ∧ n ≤ 64 * ws.length ∧ ws.length ≤ 1024) (c0 : W.cell? ⟨g, 0, none⟩ = some (.int .i64 n)) (c1 : W.cell? ⟨g, 1, none⟩ = some (.int .i64 c)) (f1 : W.frozen? ⟨g, 1, none⟩ = false)
    (c2 : W.cell? ⟨g, 2, none⟩ = some (.slice (some ⟨gw, 0, none⟩) ws.length cap)) (g1 : lo ≤ gw) (g2 : gw < hi) (g3 : gw ≠ g) (hc : ws.length ≤ cap) (hc2 : cap ≤ 9223372036854775807)
    (hw : ∀ i, i < ws.length → W.cell? ⟨gw, i, none⟩ = some (.int .u64 (ws.getD i 0 : Nat)) ∧ W.frozen? ⟨gw, i, none⟩ = false ∧ ws.getD i 0 < 18446744073709551616) (k v : Nat) (hk : k < ws.length) (hv : v < 18446744073709551616) (c' : Int) :
    SetIs lo hi g ((W.setCell ⟨gw, k, none⟩ (.int .u64 (v : Nat))).setCell ⟨g, 1, none⟩ (.int .i64 c')) n c' (ws.set k v) := by
  have n0 : ∀ a b : Nat, (⟨gw, a, none⟩ : Addr) ≠ ⟨g, b, none⟩ := fun a b e => g3 (by injection e)
  have n1 : ∀ a b : Nat, (⟨g, b, none⟩ : Addr) ≠ ⟨gw, a, none⟩ := fun a b e => g3 (by injection e with e; exact e.symm)
  have c1' : (W.setCell ⟨gw, k, none⟩ (.int .u64 (v : Nat))).cell? ⟨g, 1, none⟩ = some (.int .i64 c) := by rw [World.cell?_setCell_other _ _ _ _ (n0 _ _)]; exact c1
  refine ⟨⟨hg.1, hg.2.1, by rw [size_set, size_set]; exact hg.2.2⟩, ⟨hn.1, hn.2.1, by rw [List.length_set]; exact hn.2.2⟩, ?_, ?_, ?_, gw, cap, ?_, g1, g2, g3, by rw [List.length_set]; exact hc, hc2, fun i hi => ?_⟩
  · rw [World.cell?_setCell_other _ _ _ _ (by intro e; injection e with _ e; omega), World.cell?_setCell_other _ _ _ _ (n0 _ _)]; exact c0
  · exact World.cell?_setCell_same _ _ _ c1'
  · simp [f1]
  · rw [World.cell?_setCell_other _ _ _ _ (by intro e; injection e with _ e; omega), World.cell?_setCell_other _ _ _ _ (n0 _ _), List.length_set]; exact c2
  · rw [List.length_set] at hi
    obtain ⟨a, b, d⟩ := hw i hi
    rw [World.cell?_setCell_other _ _ _ _ (n1 _ _)]
    by_cases e : i = k
    · subst e
      refine ⟨?_, by simp [b], ?_⟩
      · rw [World.cell?_setCell_same _ _ _ a]
        simp [List.getD, hk]
      · simpa [List.getD, hk] using hv
    · have e2 : (ws.set k v).getD i 0 = ws.getD i 0 := by
        simp only [List.getD_eq_getElem?_getD, List.getElem?_set]
        rw [if_neg (by omega)]
      rw [World.cell?_setCell_other _ _ _ _ (by intro x; injection x with _ x; omega), e2]
      exact ⟨a, by simp [b], d⟩

set_option maxHeartbeats 800000 in
theorem sput_walk (lo hi g : Nat) (W : World) (n c : Int) (x : Nat) (ws : List Nat) (h : SetIs lo hi g W n c ws) (hx : (x : Int) < n) (hb : bitB ws x = false) (hc : 0 ≤ c ∧ c ≤ 1000000) :
    Calls Tryd.prog 54 #[.pointer (some ⟨g, 0, none⟩), .int .i64 x] W fun e w' => e = .returned (.bool true) ∧ SetIs lo hi g w' n (c + 1) (ws.set (x / 64) (ws.getD (x / 64) 0 ||| 2 ^ (x % 64))) ∧ Only lo hi W w' := by
  have H := Lib.hid h
  have HBB := Lib.hid hb; clear hb
  obtain ⟨⟨h1, h2, h3⟩, ⟨n0, n1, n2⟩, c0, c1, f1, gw, cap, c2, g1, g2, g3, hcp, hc2, hw⟩ := h
  obtain ⟨cc0, cc1⟩ := hc
  have hlt : x / 64 < ws.length := by omega
  obtain ⟨k1, k2, k3⟩ := hw (x / 64) hlt
  have HW := Lib.hid hw; clear hw
  have hor := or_lt k3 (show x % 64 < 64 by omega)
  have hbits := u64_or_nat (ws.getD (x / 64) 0) (2 ^ (x % 64)) k3 hor.2
  obtain ⟨v, hv⟩ : ∃ v, ws.getD (x / 64) 0 = v := ⟨_, rfl⟩
  rw [hv] at k1 k3 hor hbits ⊢
  clear hv
  obtain ⟨L, hL⟩ : ∃ L, ws.length = L := ⟨_, rfl⟩
  have HL := Lib.hid hL
  rw [hL] at c2 hlt hcp n2
  clear hL
  have x0 : (0 : Int) ≤ (x : Int) / 64 := by omega
  have x1 : (x : Int) / 64 < (L : Int) := by omega
  have x2 : ((x : Int) / 64).toNat = x / 64 := by omega
  have x3 : (0 : Int) ≤ (x : Int) % 64 := by omega
  have x4 : (x : Int) % 64 < 64 := by omega
  have x5 : ((x : Int) % 64).toNat = x % 64 := by omega
  have gne : ¬ gw = g := g3
  have gne2 : ¬ g = gw := fun e => g3 e.symm
  go_enter Tryd.func54, Tryd.ntmps54
  go_wp2_with fail
  refine (sthere_is true _ _ _ _ _ _ _ _ H.out (decide_eq_true (by omega))).mono ?_
  rintro e w' ⟨rfl, rfl⟩
  go_wp2_with fail
  refine (shas_is false _ _ _ _ _ _ _ _ H.out (by rw [Int.toNat_natCast, HBB.out, Bool.and_false])).mono ?_
  rintro e w' ⟨rfl, rfl⟩
  go_wp2_with fail
  go_region
  go_wp2
  go_ret
  have hwr : IntKind.u64.wrap (2 ^ (x % 64)) = ((2 ^ (x % 64) : Nat) : Int) := by
    have e : ((2 : Int) ^ (x % 64)) = ((2 ^ (x % 64) : Nat) : Int) := (Int.natCast_pow 2 (x % 64)).symm
    rw [e, IntKind.wrap_u64]
    have h2 := hor.2
    generalize 2 ^ (x % 64) = t at h2 ⊢
    omega
  rw [hwr, hbits]
  have hL := HL.out
  subst hL
  refine ⟨rfl, set_upd ⟨h1, h2, h3⟩ ⟨n0, n1, n2⟩ c0 c1 f1 c2 g1 g2 g3 hcp hc2 HW.out _ _ hlt hor.1 _, ?_⟩
  exact (((Only.refl _ _ _).set_ _ g1 g2).set_ _ h1 h2).drew
set_option maxHeartbeats 800000 in
theorem sdrop_walk (lo hi g : Nat) (W : World) (n c : Int) (x : Nat) (ws : List Nat) (h : SetIs lo hi g W n c ws) (hx : (x : Int) < n) (hb : bitB ws x = true) (hc : 1 ≤ c ∧ c ≤ 1000000) :
    Calls Tryd.prog 88 #[.pointer (some ⟨g, 0, none⟩), .int .i64 x] W fun e w' => e = .returned (.bool true) ∧ SetIs lo hi g w' n (c - 1) (ws.set (x / 64) (ws.getD (x / 64) 0 &&& (18446744073709551615 - 2 ^ (x % 64)))) ∧ Only lo hi W w' := by
  have H := Lib.hid h
  have HBB := Lib.hid hb; clear hb
  obtain ⟨⟨h1, h2, h3⟩, ⟨n0, n1, n2⟩, c0, c1, f1, gw, cap, c2, g1, g2, g3, hcp, hc2, hw⟩ := h
  obtain ⟨cc0, cc1⟩ := hc
  have hlt : x / 64 < ws.length := by omega
  obtain ⟨k1, k2, k3⟩ := hw (x / 64) hlt
  have HW := Lib.hid hw; clear hw
  have hor := or_lt k3 (show x % 64 < 64 by omega)
  have hbits := u64_andNot_nat (ws.getD (x / 64) 0) (2 ^ (x % 64)) k3 hor.2
  obtain ⟨v, hv⟩ : ∃ v, ws.getD (x / 64) 0 = v := ⟨_, rfl⟩
  rw [hv] at k1 k3 hor hbits ⊢
  clear hv
  obtain ⟨L, hL⟩ : ∃ L, ws.length = L := ⟨_, rfl⟩
  have HL := Lib.hid hL
  rw [hL] at c2 hlt hcp n2
  clear hL
  have x0 : (0 : Int) ≤ (x : Int) / 64 := by omega
  have x1 : (x : Int) / 64 < (L : Int) := by omega
  have x2 : ((x : Int) / 64).toNat = x / 64 := by omega
  have x3 : (0 : Int) ≤ (x : Int) % 64 := by omega
  have x4 : (x : Int) % 64 < 64 := by omega
  have x5 : ((x : Int) % 64).toNat = x % 64 := by omega
  have gne : ¬ gw = g := g3
  have gne2 : ¬ g = gw := fun e => g3 e.symm
  go_enter Tryd.func88, Tryd.ntmps88
  go_wp2_with fail
  refine (shas_is true _ _ _ _ _ _ _ _ H.out (by rw [Int.toNat_natCast, HBB.out, Bool.and_true]; exact decide_eq_true (by omega))).mono ?_
  rintro e w' ⟨rfl, rfl⟩
  go_wp2_with fail
  go_region
  go_wp2
  go_ret
  have hwr : IntKind.u64.wrap (2 ^ (x % 64)) = ((2 ^ (x % 64) : Nat) : Int) := by
    have e : ((2 : Int) ^ (x % 64)) = ((2 ^ (x % 64) : Nat) : Int) := (Int.natCast_pow 2 (x % 64)).symm
    rw [e, IntKind.wrap_u64]
    have h2 := hor.2
    generalize 2 ^ (x % 64) = t at h2 ⊢
    omega
  rw [hwr, hbits]
  have hL := HL.out
  subst hL
  refine ⟨rfl, set_upd ⟨h1, h2, h3⟩ ⟨n0, n1, n2⟩ c0 c1 f1 c2 g1 g2 g3 hcp hc2 HW.out _ _ hlt (Nat.lt_of_le_of_lt Nat.and_le_left k3) _, ?_⟩
  exact (((Only.refl _ _ _).set_ _ g1 g2).set_ _ h1 h2).drew

theorem sput_no (lo hi g : Nat) (W : World) (n c x : Int) (ws : List Nat) (h : SetIs lo hi g W n c ws) (hx : ¬ (0 ≤ x ∧ x < n) ∨ bitB ws x.toNat = true) :
    Calls Tryd.prog 54 #[.pointer (some ⟨g, 0, none⟩), .int .i64 x] W fun e w' => e = .returned (.bool false) ∧ W = w' := by
  have H := Lib.hid h; clear h
  by_cases hn : 0 ≤ x ∧ x < n
  · have hb : bitB ws x.toNat = true := by rcases hx with h | h; exact absurd hn h; exact h
    have HN := Lib.hid hn; clear hn hx
    have HB := Lib.hid hb; clear hb
    go_enter Tryd.func54, Tryd.ntmps54
    go_wp2_with fail
    refine (sthere_is true _ _ _ _ _ _ _ _ H.out (decide_eq_true HN.out)).mono ?_
    rintro e w' ⟨rfl, rfl⟩
    go_wp2_with fail
    refine (shas_is true _ _ _ _ _ _ _ _ H.out (by rw [HB.out, Bool.and_true]; exact decide_eq_true HN.out)).mono ?_
    rintro e w' ⟨rfl, rfl⟩
    go_wp2
    go_ret
    exact ⟨rfl, rfl⟩
  · have HN := Lib.hid hn; clear hn hx
    go_enter Tryd.func54, Tryd.ntmps54
    go_wp2_with fail
    refine (sthere_is false _ _ _ _ _ _ _ _ H.out (decide_eq_false HN.out)).mono ?_
    rintro e w' ⟨rfl, rfl⟩
    go_wp2
    go_ret
    exact ⟨rfl, rfl⟩
theorem sdrop_no (lo hi g : Nat) (W : World) (n c x : Int) (ws : List Nat) (h : SetIs lo hi g W n c ws) (hx : (decide (0 ≤ x ∧ x < n) && bitB ws x.toNat) = false) :
    Calls Tryd.prog 88 #[.pointer (some ⟨g, 0, none⟩), .int .i64 x] W fun e w' => e = .returned (.bool false) ∧ W = w' := by
  have H := Lib.hid h; clear h
  have HX := Lib.hid hx; clear hx
  go_enter Tryd.func88, Tryd.ntmps88
  go_wp2_with fail
  refine (shas_is false _ _ _ _ _ _ _ _ H.out HX.out).mono ?_
  rintro e w' ⟨rfl, rfl⟩
  go_wp2
  go_ret
  exact ⟨rfl, rfl⟩

theorem bit_or (v i j : Nat) : (v ||| 2 ^ i).testBit j = (v.testBit j || decide (i = j)) := by rw [Nat.testBit_or, Nat.testBit_two_pow]
theorem bit_clear (v i j : Nat) (hi : i < 64) (hj : j < 64) : (v &&& (18446744073709551615 - 2 ^ i)).testBit j = (v.testBit j && !decide (i = j)) := by
  have h2 : 2 ^ i < 2 ^ 64 := Nat.pow_lt_pow_right (by decide) hi
  have e : 18446744073709551615 - 2 ^ i = 2 ^ 64 - (2 ^ i + 1) := by omega
  rw [Nat.testBit_and, e, Nat.testBit_two_pow_sub_succ h2, Nat.testBit_two_pow]
  simp [hj]
theorem bitB_put (ws : List Nat) (x y : Nat) (hx : x / 64 < ws.length) : bitB (ws.set (x / 64) (ws.getD (x / 64) 0 ||| 2 ^ (x % 64))) y = (bitB ws y || decide (x = y)) := by
  unfold bitB
  by_cases e : y / 64 = x / 64
  · rw [e]
    simp only [List.getD_eq_getElem?_getD, List.getElem?_set_self hx, Option.getD_some]
    rw [bit_or]
    congr 1
    rw [decide_eq_decide]
    omega
  · have e2 : (ws.set (x / 64) (ws.getD (x / 64) 0 ||| 2 ^ (x % 64))).getD (y / 64) 0 = ws.getD (y / 64) 0 := by
      simp only [List.getD_eq_getElem?_getD, List.getElem?_set]
      rw [if_neg (by omega)]
    rw [e2]
    have : decide (x = y) = false := decide_eq_false (by rintro rfl; exact e rfl)
    rw [this, Bool.or_false]
theorem bitB_drop (ws : List Nat) (x y : Nat) (hx : x / 64 < ws.length) : bitB (ws.set (x / 64) (ws.getD (x / 64) 0 &&& (18446744073709551615 - 2 ^ (x % 64)))) y = (bitB ws y && !decide (x = y)) := by
  unfold bitB
  by_cases e : y / 64 = x / 64
  · rw [e]
    simp only [List.getD_eq_getElem?_getD, List.getElem?_set_self hx, Option.getD_some]
    rw [bit_clear _ _ _ (by omega) (by omega)]
    congr 2
    rw [decide_eq_decide]
    omega
  · have e2 : (ws.set (x / 64) (ws.getD (x / 64) 0 &&& (18446744073709551615 - 2 ^ (x % 64)))).getD (y / 64) 0 = ws.getD (y / 64) 0 := by
      simp only [List.getD_eq_getElem?_getD, List.getElem?_set]
      rw [if_neg (by omega)]
    rw [e2]
    have : decide (x = y) = false := decide_eq_false (by rintro rfl; exact e rfl)
    rw [this, Bool.not_false, Bool.and_true]
end Go.Proofs.YtljjcomedjdpaaaDoor
namespace Go.Proofs.YtljjcomedjdpaaaDoor
set_option maxRecDepth 100000
open Go.RowKit
set_option linter.unusedVariables false
set_option linter.unusedSimpArgs false

theorem scount_any (lo hi g : Nat) (W : World) (n c : Int) (ws : List Nat) (h : SetIs lo hi g W n c ws) :
    Calls Tryd.prog 80 #[.pointer (some ⟨g, 0, none⟩)] W fun e w' => e = .returned (.int .i64 c) ∧ W = w' := by
  obtain ⟨_, _, _, c1, _⟩ := h
  go_enter Tryd.func80, Tryd.ntmps80
  go_wp2
  go_ret
  exact ⟨rfl, rfl⟩

def sendI (n f m : Int) : Int := if 0 ≤ f ∧ f < n ∧ 1 ≤ m then f + min m (n - f) else f
theorem send_any (lo hi g : Nat) (W : World) (n c f m : Int) (ws : List Nat) (h : SetIs lo hi g W n c ws) :
    Calls Tryd.prog 53 #[.pointer (some ⟨g, 0, none⟩), .int .i64 f, .int .i64 m] W fun e w' => e = .returned (.int .i64 (sendI n f m)) ∧ W = w' := by
  have H := Lib.hid h
  obtain ⟨_, ⟨n0, n1, _⟩, c0, _⟩ := h
  have hd : sendI n f m = if 0 ≤ f ∧ f < n ∧ 1 ≤ m then f + min m (n - f) else f := rfl
  have HD := Lib.hid hd; clear hd
  by_cases h1 : 0 ≤ f ∧ f < n
  · by_cases h2 : m < 1
    · have HN := Lib.hid h1; clear h1
      go_enter Tryd.func53, Tryd.ntmps53
      go_wp2_with fail
      refine (sthere_is true _ _ _ _ _ _ _ _ H.out (decide_eq_true HN.out)).mono ?_
      rintro e w' ⟨rfl, rfl⟩
      go_wp2
      go_ret
      exact ⟨ret_int (by rw [HD.out, if_neg (by omega)]), rfl⟩
    · have HN := Lib.hid h1
      obtain ⟨f0, f1⟩ := h1
      go_enter Tryd.func53, Tryd.ntmps53
      go_wp2_with fail
      refine (sthere_is true _ _ _ _ _ _ _ _ H.out (decide_eq_true HN.out)).mono ?_
      rintro e w' ⟨rfl, rfl⟩
      go_wp2
      all_goals
        go_ret
        exact ⟨ret_int (by rw [HD.out, if_pos (by omega)]; omega), rfl⟩
  · have HN := Lib.hid h1; clear h1
    go_enter Tryd.func53, Tryd.ntmps53
    go_wp2_with fail
    refine (sthere_is false _ _ _ _ _ _ _ _ H.out (decide_eq_false HN.out)).mono ?_
    rintro e w' ⟨rfl, rfl⟩
    go_wp2
    go_ret
    exact ⟨ret_int (by have := HN.out; rw [HD.out, if_neg (by omega)]), rfl⟩

theorem infoU64 : (Tryd.prog.info? 124).map (fun i => (i.zero, i.size, i.bytes)) = some (some (.int .u64 0), 1, 8) := by kernel_rfl
def SNewPost (n : Int) (W : World) (e : Ending) (w' : World) : Prop :=
  ∃ g, e = .returned (.pointer (some ⟨g, 0, none⟩)) ∧ SetIs W.heap.size w'.heap.size g w' n 0 (List.replicate ((n + 63) / 64).toNat 0) ∧ Below W.heap.size W w'
theorem snew_any (n k : Int) (W : World) (hk : min (max n 0) 65536 = k) :
    Calls Tryd.prog 28 #[.int .i64 n] W (SNewPost k W) := by
  have k0 : 0 ≤ k ∧ k ≤ 65536 := by omega
  obtain ⟨k0, k1⟩ := k0
  have HK := Lib.hid hk; clear hk
  obtain ⟨L, hL⟩ : ∃ L : Nat, (L : Int) = (k + 63) / 64 := ⟨((k + 63) / 64).toNat, by omega⟩
  have hL2 : ((k + 63) / 64).toNat = L := by omega
  have hL3 : L ≤ 1024 := by omega
  obtain ⟨i0, hi, hz0, hz1, hz2⟩ := info_parts infoU64
  have hmk := fun W : World => run_make (P := Tryd.prog) (w := W) 101 124 i0 (.int .u64 0) Tryd.underlying101 hi hz0 .i64 .i64 (L : Int) (L : Int) (by omega) (by omega) (by rw [hz2]; omega) (by omega)
  simp only [Int.toNat_natCast, hz1] at hmk
  have hq : (k + 64 - 1) / 64 = (L : Int) := by omega
  clear hL hL2
  go_enter Tryd.func28, Tryd.ntmps28
  go_upto_region 1 with (fail)
  go_cut [0] (fun v wx => v = .int .i64 k ∧ W = wx)
  case first =>
    go_wp2_with fail
    all_goals
      go_meet
      exact ⟨congrArg (Value.int .i64) (by have := HK.out; omega), rfl⟩
  case rest =>
    obtain ⟨rfl, rfl⟩ := hcut
    go_wp2_with fail
    go_ret
    have hrep : ((k + 63) / 64).toNat = L := by omega
    have hcell : ∀ i, i < L → (madeCells #[.int .u64 0] L)[i]? = some (.int .u64 0) := fun i hi => by
      have := toList_madeCells_one (.int .u64 0) L
      rw [← Array.getElem?_toList, this, List.getElem?_replicate, if_pos hi]
    refine ⟨W.heap.size + 1, by first | rfl | simp, ?_, alc (alc0 _ _) _⟩
    rw [hrep]
    refine ⟨⟨by omega, by simp, Nat.le_refl _⟩, ⟨k0, k1, by simp; omega⟩, by simp, by simp, by simp, W.heap.size, L, by simp, Nat.le_refl _, by simp; omega, by omega, by simp, by omega, fun i hi => ?_⟩
    have hi' : i < L := by simpa using hi
    refine ⟨?_, by simp, by simp [List.getD, hi']⟩
    rw [World.cell?_alloc_lt _ _ _ (by simp), World.cell?_alloc_mark]
    refine (hcell i hi').trans ?_
    simp [List.getD, hi']
end Go.Proofs.YtljjcomedjdpaaaDoor

