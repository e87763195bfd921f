/- Three, Code in one text: a claim holds at most 60 files. -/
import Derived.Test.YtljjcomedjdpaaaDoorCapAt
import Derived.Laws.BitsAllLaws
import Derived.Laws.MakeOwn
import Derived.Deep.RegionWith
import Derived.RegionTactic
import Derived.ChangeAlike
import Derived.BigRegion
namespace Go.Proofs.YtljjcomedjdpaaaDoor
set_option maxRecDepth 100000
open Go.RowKit
set_option linter.unusedVariables false
set_option linter.unusedSimpArgs false

/-- K bytes at block g. -/
def RowU (g K : Nat) (W : World) (f : Nat → Nat) : Prop :=
  g < W.heap.size ∧ ∀ i, i < K → W.cell? ⟨g, i, none⟩ = some (.int .u8 (f i : Int)) ∧ W.frozen? ⟨g, i, none⟩ = false
theorem sizeSet (W : World) (p : Addr) (v : Value) : (W.setCell p v).heap.size = W.heap.size := by simp [World.setCell]
theorem RowU.up {r K x : Nat} {W : World} {c c' : Nat → Nat} {v : Int} (h : RowU r K W c) (hx : x < K) (hv : v = (c' x : Nat)) (hc : ∀ k, k ≠ x → c' k = c k) : RowU r K (W.setCell ⟨r, x, none⟩ (.int .u8 v)) c' := by
  refine ⟨by rw [sizeSet]; exact h.1, fun i hi => ?_⟩
  obtain ⟨k1, k2⟩ := h.2 i hi
  refine ⟨?_, by simp [k2]⟩
  by_cases e : x = i
  · subst e
    rw [World.cell?_setCell_same _ _ _ k1, hv]
  · rw [World.cell?_setCell_other _ _ _ _ (by intro q; injection q with _ q; exact e q), k1, hc i (fun q => e q.symm)]
theorem RowU.keep {r K : Nat} {W W' : World} {c : Nat → Nat} (h : RowU r K W c) (hs : W.heap.size ≤ W'.heap.size) (hk : W'.heap[r]? = W.heap[r]?) : RowU r K W' c := by
  refine ⟨Nat.lt_of_lt_of_le h.1 hs, fun i hi => ?_⟩
  obtain ⟨h1, h2⟩ := h.2 i hi
  exact ⟨(World.cell?_of_block hk).trans h1, (World.frozen?_of_block hk).trans h2⟩
theorem RowU.below {r K : Nat} {W W' : World} {c : Nat → Nat} (h : RowU r K W c) (hb : Below W.heap.size W W') : RowU r K W' c := h.keep hb.size (hb.block r h.1)
/-- The j lowest bytes of n from place o on. -/
def put3 (f : Nat → Nat) (o n j : Nat) : Nat → Nat := fun y => if o ≤ y ∧ y < o + j then n / 256 ^ (y - o) % 256 else f y
/-- Only block g is another one. -/
def OnlyG (g : Nat) (W W' : World) : Prop := Below g W W' ∧ W'.heap.size = W.heap.size ∧ ∀ i, i ≠ g → W'.heap[i]? = W.heap[i]?
theorem OnlyG.refl (g : Nat) (W : World) : OnlyG g W W := ⟨Below.refl _ _, rfl, fun _ _ => rfl⟩
theorem OnlyG.set_ {g o : Nat} {W W' : World} {v : Value} (h : OnlyG g W W') : OnlyG g W (W'.setCell ⟨g, o, none⟩ v) :=
  ⟨h.1.setCell (Nat.le_refl _) _, by rw [sizeSet]; exact h.2.1, fun i hi => (Below.heap_setCell _ _ _ _ (by simpa using hi)).trans (h.2.2 i hi)⟩
theorem wu0 (n : Nat) : IntKind.u8.wrap (n : Int) = ((n % 256 : Nat) : Int) := by rw [IntKind.wrap_u8]; omega
theorem wu1 (n : Nat) : IntKind.u8.wrap ((n : Int) / 256) = ((n / 256 % 256 : Nat) : Int) := by rw [IntKind.wrap_u8]; omega
theorem wu2 (n : Nat) : IntKind.u8.wrap ((n : Int) / 65536) = ((n / 65536 % 256 : Nat) : Int) := by rw [IntKind.wrap_u8]; omega

set_option maxHeartbeats 800000 in
theorem tput (g o K len cap n : Nat) (f : Nat → Nat) (W : World) (H : RowU g K W f) (ho : o + 3 ≤ K) (hl : 3 ≤ len) (hl2 : len ≤ 1000) (hn : n < 16777216) :
    Calls Tryd.prog 51 #[.slice (some ⟨g, o, none⟩) len cap, .int .i64 n] W fun e w' => e = .returned (.bool true) ∧ RowU g K w' (put3 f o n 3) ∧ OnlyG g W w' := by
  have HH := Lib.hid H; clear H
  have l0 : ¬ (len : Int) < 3 := by omega
  have l1 : (0 : Int) < len := by omega
  have l2 : (1 : Int) < len := by omega
  have l3 : (2 : Int) < len := by omega
  have w0 := wu0 n
  have w1 := wu1 n
  have w2 := wu2 n
  have hz : put3 f o n 0 = f := by funext y; unfold put3; rw [if_neg (by omega)]
  go_enter Tryd.func51, Tryd.ntmps51
  go_wp2_with fail
  go_loopw [9] (fun v9 wr => ∃ j : Nat, j ≤ 3 ∧ v9 = .int .i64 (j : Nat) ∧ Hid (RowU g K wr (put3 f o n j)) ∧ Hid (OnlyG g W wr)) (fun v9 _ => 3 - (intOf v9).toNat)
  case atStart => exact ⟨0, by omega, rfl, Lib.hid (by rw [hz]; exact HH.out), Lib.hid (OnlyG.refl _ _)⟩
  case round =>
    clear hz HH
    obtain ⟨j, hj, rfl, HR, HO⟩ := hrel
    have hj4 : j = 0 ∨ j = 1 ∨ j = 2 ∨ j = 3 := by omega
    rcases hj4 with rfl | rfl | rfl | rfl
    · obtain ⟨k1, k2⟩ := HR.out.2 o (by omega)
      have HU := Lib.hid (HR.out.up (x := o) (c' := put3 f o n 1) (v := ((n % 256 : Nat) : Int)) (by omega) (by unfold put3; rw [if_pos (by omega)]; simp) (fun y hy => by unfold put3; split <;> split <;> first | rfl | omega))
      go_wp2_with fail
      go_roundw
      case rel => exact ⟨1, by omega, by go_num, HU, Lib.hid HO.out.set_⟩
      case measure => simp [intOf]
    · obtain ⟨k1, k2⟩ := HR.out.2 (o + 1) (by omega)
      have HU := Lib.hid (HR.out.up (x := o + 1) (c' := put3 f o n 2) (v := ((n / 256 % 256 : Nat) : Int)) (by omega) (by unfold put3; rw [if_pos (by omega)]; simp) (fun y hy => by unfold put3; split <;> split <;> first | rfl | omega))
      go_wp2_with fail
      go_roundw
      case rel => exact ⟨2, by omega, by go_num, HU, Lib.hid HO.out.set_⟩
      case measure => simp [intOf]
    · obtain ⟨k1, k2⟩ := HR.out.2 (o + 2) (by omega)
      have HU := Lib.hid (HR.out.up (x := o + 2) (c' := put3 f o n 3) (v := ((n / 65536 % 256 : Nat) : Int)) (by omega) (by unfold put3; rw [if_pos (by omega)]; simp) (fun y hy => by unfold put3; split <;> split <;> first | rfl | omega))
      go_wp2_with fail
      go_roundw
      case rel => exact ⟨3, by omega, by go_num, HU, Lib.hid HO.out.set_⟩
      case measure => simp [intOf]
    · go_wp2_with fail
      go_ret
      exact ⟨rfl, HR.out, HO.out⟩

/-- Or of numbers that share no bit. -/
theorem or_disj (a b i : Nat) (ha : a < 2 ^ i) (hs : 2 ^ i * b + a < 9223372036854775808) : bits .or .i64 (a : Int) ((2 ^ i * b : Nat) : Int) = ((2 ^ i * b + a : Nat) : Int) := by
  have h1 : (BitVec.ofInt 64 (a : Int)).toNat = a := by
    rw [BitVec.ofInt_natCast, BitVec.toNat_ofNat]; exact Nat.mod_eq_of_lt (by omega)
  have h2 : (BitVec.ofInt 64 ((2 ^ i * b : Nat) : Int)).toNat = 2 ^ i * b := by
    rw [BitVec.ofInt_natCast, BitVec.toNat_ofNat]; exact Nat.mod_eq_of_lt (by omega)
  show IntKind.i64.wrap ((BitVec.ofInt 64 (a : Int) ||| BitVec.ofInt 64 ((2 ^ i * b : Nat) : Int)).toNat : Int) = _
  rw [BitVec.toNat_or, h1, h2, Nat.or_comm, ← Nat.two_pow_add_eq_or_of_lt ha, IntKind.wrap_i64]
  omega
theorem or8 (a b : Nat) (ha : a < 256) (hb : b < 256) : bits .or .i64 (a : Int) ((b : Int) * 256) = (a : Int) + 256 * b := by
  have := or_disj a b 8 ha (by omega)
  rw [show ((2 ^ 8 * b : Nat) : Int) = (b : Int) * 256 by omega] at this
  rw [this]; omega
theorem or16 (a b c : Nat) (ha : a < 256) (hb : b < 256) (hc : c < 256) : bits .or .i64 ((a : Int) + 256 * b) ((c : Int) * 65536) = (a : Int) + 256 * b + 65536 * c := by
  have := or_disj (a + 256 * b) c 16 (by omega) (by omega)
  rw [show ((2 ^ 16 * c : Nat) : Int) = (c : Int) * 65536 by omega, show ((a + 256 * b : Nat) : Int) = (a : Int) + 256 * b by omega] at this
  rw [this]; omega
def get3 (f : Nat → Nat) (o : Nat) : Nat := f o + 256 * f (o + 1) + 65536 * f (o + 2)
set_option maxHeartbeats 800000 in
theorem tget (g o len cap a b c : Nat) (W : World) (k0 : W.cell? ⟨g, o, none⟩ = some (.int .u8 (a : Int))) (k1 : W.cell? ⟨g, o + 1, none⟩ = some (.int .u8 (b : Int))) (k2 : W.cell? ⟨g, o + 2, none⟩ = some (.int .u8 (c : Int))) (ha : a < 256) (hb : b < 256) (hc : c < 256) (hl : 3 ≤ len) (hl2 : len ≤ 1000) :
    Calls Tryd.prog 35 #[.slice (some ⟨g, o, none⟩) len cap] W fun e w' => e = .returned (.int .i64 (a + 256 * b + 65536 * c : Nat)) ∧ ∃ q, w' = W.drewN q := by
  have l0 : ¬ (len : Int) < 3 := by omega
  have l1 : (0 : Int) < len := by omega
  have l2 : (1 : Int) < len := by omega
  have l3 : (2 : Int) < len := by omega
  have e1 := or8 a b ha hb
  have e2 := or16 a b c ha hb hc
  go_enter Tryd.func35, Tryd.ntmps35
  go_wp2_with fail
  go_quiet (fail)
  go_wp2
  go_ret
  exact ⟨ret_int (by omega), _, rfl⟩
end Go.Proofs.YtljjcomedjdpaaaDoor
namespace Go.Proofs.YtljjcomedjdpaaaDoor
set_option maxRecDepth 100000
open Go.RowKit
set_option linter.unusedVariables false
set_option linter.unusedSimpArgs false

theorem RowU.heap {r K : Nat} {W W' : World} {c : Nat → Nat} (h : RowU r K W c) (e : W'.heap = W.heap) : RowU r K W' c := h.keep (by rw [e]; exact Nat.le_refl _) (by rw [e])
theorem CapAt.heap {x : Nat} {W W' : World} {b l c p t : Int} {v : Bool} (h : CapAt x W b l c p t v) (e : W'.heap = W.heap) : CapAt x W' b l c p t v := h.keep (by rw [e]; exact Nat.le_refl _) (by rw [e])
theorem infoU8c : (Tryd.prog.info? 5).map (fun i => (i.zero, i.size, i.bytes)) = some (some (.int .u8 0), 1, 1) := by kernel_rfl
theorem mk16 (W : World) : (Instr.makeSlice 39 (.int .i64 16) (.int .i64 16)).run Tryd.prog W = .ok (.slice (some ⟨W.heap.size, 0, none⟩) 16 16) (W.alloc (.cells (madeCells #[.int .u8 0] 16) 5)) := by
  obtain ⟨i0, hi, hz0, hz1, hz2⟩ := info_parts infoU8c
  have := run_make (P := Tryd.prog) (w := W) 39 5 i0 (.int .u8 0) Tryd.underlying39 hi hz0 .i64 .i64 16 16 (by omega) (by omega) (by rw [hz2]; omega) (by omega)
  rw [hz1] at this
  exact this
theorem row16 (W : World) : RowU W.heap.size 16 (W.alloc (.cells (madeCells #[.int .u8 0] 16) 5)) (fun _ => 0) := by
  refine ⟨by simp, fun i hi => ⟨?_, by simp⟩⟩
  rw [World.cell?_alloc_mark]
  have := toList_madeCells_one (.int .u8 0) 16
  rw [← Array.getElem?_toList, this, List.getElem?_replicate, if_pos hi]; rfl
/-- A slice of sixteen bytes f. -/
def BytesPost (f : Nat → Nat) (w : World) (e : Ending) (w' : World) : Prop :=
  ∃ g, e = .returned (.slice (some ⟨g, 0, none⟩) 16 16) ∧ w.heap.size ≤ g ∧ RowU g 16 w' f ∧ Below w.heap.size w w'
theorem cbytes_no (b l c p t : Int) (v : Bool) (w : World) (h : (v && capOkB b l c p t) = false) :
    Calls Tryd.prog 27 #[.agg #[.int .i64 b, .int .i64 l, .int .i64 c, .int .i64 p, .int .i64 t, .bool v]] w (BytesPost (fun _ => 0) w) := by
  have hmk := mk16
  have h16 : (w.alloc (.cells #[.int .i64 b, .int .i64 l, .int .i64 c, .int .i64 p, .int .i64 t, .bool v] 37)).heap.size = w.heap.size + 1 := by simp
  have hr := row16 (w.alloc (.cells #[.int .i64 b, .int .i64 l, .int .i64 c, .int .i64 p, .int .i64 t, .bool v] 37))
  rw [h16] at hr
  have HR := Lib.hid hr
  clear hr h16
  cases v
  · go_enter Tryd.func27, Tryd.ntmps27
    go_wp2_with fail
    go_ret
    exact ⟨w.heap.size + 1, rfl, by omega, HR.out, alc (alc0 _ _) _⟩
  · have H := Lib.hid (show capMayB b l c p t true = false from by rw [← h]; rfl); clear h
    go_enter Tryd.func27, Tryd.ntmps27
    go_wp2_with fail
    refine (capmay_is _ _ _ _ _ _ _ _ H.out).mono ?_
    rintro e w1 ⟨rfl, hb1⟩
    go_wp2
    go_ret
    exact ⟨w.heap.size + 1, rfl, by omega, HR.out.below hb1, thn (alc (alc0 _ _) _) hb1⟩

def codeA : Nat → Nat := fun y => if y = 0 then 197 else 0
def codeB (B : Nat) : Nat → Nat := put3 codeA 1 B 3
def codeC (B L : Nat) : Nat → Nat := put3 (codeB B) 4 L 3
def codeD (B L D : Nat) : Nat → Nat := put3 (codeC B L) 7 D 3
def codeE (B L D P : Nat) : Nat → Nat := fun y => if y = 10 then P else codeD B L D y
def codeF (B L D P T : Nat) : Nat → Nat := fun y => if y = 11 then T else codeE B L D P y
set_option maxHeartbeats 2000000 in
theorem cbytes_yes (B L D P T : Nat) (c : Int) (w : World) (h : capOkB B L c P T = true) (hD : c - B + 1048576 = D) :
    Calls Tryd.prog 27 #[.agg #[.int .i64 B, .int .i64 L, .int .i64 c, .int .i64 P, .int .i64 T, .bool true]] w (BytesPost (codeF B L D P T) w) := by
  have hmk := mk16
  have H := Lib.hid (show capMayB B L c P T true = true from h)
  obtain ⟨_, hb, hc, hp, ht⟩ := ok_base (v := true) (by rw [h]; rfl : (true && capOkB B L c P T) = true)
  have hBN : B < 16777216 := by omega
  have hLN : L < 16777216 := by omega
  have hDN : D < 16777216 := by omega
  have HN := Lib.hid (And.intro hBN (And.intro hLN hDN))
  have HD := Lib.hid hD
  have hw1 : wrap64 (c - B) = c - B := by unfold wrap64; omega
  have hw2 : IntKind.i64.wrap (c - B + 1048576) = D := by rw [hD]; exact IntWalk.i64_in _ (by omega)
  have hw3 : IntKind.u8.wrap (P : Int) = P := by rw [IntKind.wrap_u8]; omega
  have hw4 : IntKind.u8.wrap (T : Int) = T := by rw [IntKind.wrap_u8]; omega
  have HW := Lib.hid hw1
  clear h hb hc hp ht hBN hLN hDN hD hw1
  go_enter Tryd.func27, Tryd.ntmps27
  go_wp2_with fail
  refine (capmay_is _ _ _ _ _ _ _ _ H.out).mono ?_
  rintro e w1 ⟨rfl, hb1⟩
  have hs1 : (w.alloc (.cells #[.int .i64 B, .int .i64 L, .int .i64 c, .int .i64 P, .int .i64 T, .bool true] 37)).heap.size = w.heap.size + 1 := by simp
  have hr := row16 (w.alloc (.cells #[.int .i64 B, .int .i64 L, .int .i64 c, .int .i64 P, .int .i64 T, .bool true] 37))
  rw [hs1] at hr
  have HX1 : Hid (CapAt w.heap.size w1 B L c P T true) := Lib.hid (((CapAt.new w B L c P T true 37).below (alc0 _ _)).below hb1)
  have HR1 : Hid (RowU (w.heap.size + 1) 16 w1 (fun _ => 0)) := Lib.hid (hr.below hb1)
  have HB1 : Hid (Below w.heap.size w w1) := Lib.hid (thn (alc (alc0 _ _) _) hb1)
  obtain ⟨x, hx⟩ : ∃ x, w.heap.size = x := ⟨_, rfl⟩
  obtain ⟨g, hg⟩ : ∃ g, w.heap.size + 1 = g := ⟨_, rfl⟩
  have hxg : x < g := by omega
  have hxw : w.heap.size ≤ g := by omega
  rw [hx] at HX1
  rw [hg] at HR1
  simp only [hg]
  simp only [hx]
  clear hr hb1 hs1
  obtain ⟨_, k0, k1, k2, k3, k4, k5, kf⟩ := HX1.out
  obtain ⟨j1, j2⟩ := HR1.out.2 0 (by omega)
  go_upto_region 5 with (fail)
  have HR2 : Hid (RowU g 16 (w1.setCell ⟨g, 0, none⟩ (.int .u8 197)) codeA) := Lib.hid (HR1.out.up (c' := codeA) (v := 197) (by omega) rfl (fun k hk => by unfold codeA; rw [if_neg hk]))
  have HX2 : Hid (CapAt x (w1.setCell ⟨g, 0, none⟩ (.int .u8 197)) B L c P T true) := Lib.hid (HX1.out.far (Nat.ne_of_lt hxg))
  have HB2 : Hid (Below w.heap.size w (w1.setCell ⟨g, 0, none⟩ (.int .u8 197))) := Lib.hid (HB1.out.setCell hxw _)
  obtain ⟨w2, hw⟩ : ∃ w2, w1.setCell ⟨g, 0, none⟩ (.int .u8 197) = w2 := ⟨_, rfl⟩
  rw [hw] at HR2 HX2 HB2 ⊢
  clear hw k0 k1 k2 k3 k4 k5 kf j1 j2 HR1 HX1 HB1
  obtain ⟨_, k0, k1, k2, k3, k4, k5, kf⟩ := HX2.out
  go_upto_region 5 with (fail)
  go_cut [20] (fun vv wx => vv = .bool true ∧ Hid (RowU g 16 wx (codeB B)) ∧ Hid (CapAt x wx B L c P T true) ∧ Hid (Below w.heap.size w wx))
  case first =>
    have HP := Lib.hid (fun (W' : World) (e : W'.heap = w2.heap) => tput g 1 16 15 15 B (codeA) W' (HR2.out.heap e) (by omega) (by omega) (by omega) (by have := HN.out; omega))
    go_region_with (go_at_call 51; refine (HP.out _ (by rfl)).mono ?_; rintro e w9 ⟨rfl, hr, ho⟩)
    all_goals go_wp2
    all_goals go_meet
    all_goals exact ⟨rfl, Lib.hid hr, Lib.hid ((HX2.out.heap (by rfl)).keep (Nat.le_of_eq ho.2.1.symm) (ho.2.2 x (Nat.ne_of_lt hxg))), Lib.hid (by first | exact HB2.out.trans (ho.1.mono hxw) | exact HB2.out.drew.trans (ho.1.mono hxw))⟩
  case rest =>
    obtain ⟨rfl, HR3, HX3, HB3⟩ := hcut
    obtain ⟨w3, rfl⟩ : ∃ w3 : World, w3 = wc := ⟨_, rfl⟩
    clear k0 k1 k2 k3 k4 k5 kf HR2 HX2 HB2
    obtain ⟨_, k0, k1, k2, k3, k4, k5, kf⟩ := HX3.out
    go_upto_region 6 with (fail)
    go_cut [25] (fun vv wx => vv = .bool true ∧ Hid (RowU g 16 wx (codeC B L)) ∧ Hid (CapAt x wx B L c P T true) ∧ Hid (Below w.heap.size w wx))
    case first =>
      have HP := Lib.hid (fun (W' : World) (e : W'.heap = w3.heap) => tput g 4 16 12 12 L (codeB B) W' (HR3.out.heap e) (by omega) (by omega) (by omega) (by have := HN.out; omega))
      go_region_with (go_at_call 51; refine (HP.out _ (by rfl)).mono ?_; rintro e w9 ⟨rfl, hr, ho⟩)
      all_goals go_wp2
      all_goals go_meet
      all_goals exact ⟨rfl, Lib.hid hr, Lib.hid ((HX3.out.heap (by rfl)).keep (Nat.le_of_eq ho.2.1.symm) (ho.2.2 x (Nat.ne_of_lt hxg))), Lib.hid (by first | exact HB3.out.trans (ho.1.mono hxw) | exact HB3.out.drew.trans (ho.1.mono hxw))⟩
    case rest =>
      obtain ⟨rfl, HR4, HX4, HB4⟩ := hcut
      obtain ⟨w4, rfl⟩ : ∃ w4 : World, w4 = wc := ⟨_, rfl⟩
      clear k0 k1 k2 k3 k4 k5 kf HR3 HX3 HB3
      obtain ⟨_, k0, k1, k2, k3, k4, k5, kf⟩ := HX4.out
      go_upto_region 7 with (fail)
      go_cut [31] (fun vv wx => vv = .bool true ∧ Hid (RowU g 16 wx (codeD B L D)) ∧ Hid (CapAt x wx B L c P T true) ∧ Hid (Below w.heap.size w wx))
      case first =>
        have HP := Lib.hid (fun (W' : World) (hb : Below w4.heap.size w4 W') => tput g 7 16 9 9 D (codeC B L) W' (HR4.out.below hb) (by omega) (by omega) (by omega) (by have := HN.out; omega))
        go_region_with (first | (go_at_call 52; refine (capoff_any _ _ _ _ _ _ _).mono ?_; rintro e w8 ⟨rfl, hb8⟩; rw [HW.out]; have hx8 : Below w4.heap.size w4 w8 := (by first | exact hb8 | exact (Below.refl _ _).drew.trans hb8)) | (go_at_call 51; refine (HP.out _ hx8).mono ?_; rintro e w9 ⟨rfl, hr, ho⟩))
        all_goals go_wp2
        all_goals go_meet
        all_goals exact ⟨rfl, Lib.hid hr, Lib.hid ((HX4.out.below hx8).keep (Nat.le_of_eq ho.2.1.symm) (ho.2.2 x (Nat.ne_of_lt hxg))), Lib.hid ((thn HB4.out hx8).trans (ho.1.mono hxw))⟩
      case rest =>
        obtain ⟨rfl, HR5, HX5, HB5⟩ := hcut
        obtain ⟨w5, rfl⟩ : ∃ w5 : World, w5 = wc := ⟨_, rfl⟩
        clear k0 k1 k2 k3 k4 k5 kf HR4 HX4 HB4
        obtain ⟨_, k0, k1, k2, k3, k4, k5, kf⟩ := HX5.out
        obtain ⟨j1, j2⟩ := HR5.out.2 10 (by omega)
        obtain ⟨j3, j4⟩ := HR5.out.2 11 (by omega)
        go_upto_region 8 with (fail)
        go_region
        all_goals go_wp2
        all_goals go_ret
        all_goals
          have u1 := HR5.out.up (x := 10) (c' := codeE B L D P) (v := (P : Int)) (by omega) (by unfold codeE; rw [if_pos rfl]) (fun y hy => by unfold codeE; rw [if_neg hy])
          have u2 := u1.up (x := 11) (c' := codeF B L D P T) (v := (T : Int)) (by omega) (by unfold codeF; rw [if_pos rfl]) (fun y hy => by unfold codeF; rw [if_neg hy])
          exact ⟨g, rfl, hxw, u2.below (Below.refl _ _).drew, ((HB5.out.setCell hxw _).setCell hxw _).drew⟩
end Go.Proofs.YtljjcomedjdpaaaDoor

