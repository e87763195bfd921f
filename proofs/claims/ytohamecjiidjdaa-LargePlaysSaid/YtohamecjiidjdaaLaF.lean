/- Package large: contracts. -/
import Derived.Test.YtohamecjiidjdaaLaE
import Derived.Deep.DeepCutAuto
import Derived.Deep.RegionHeld3
namespace Go.Proofs.Ytohamecjiidjdaa
open Go.RowKit
set_option linter.unusedVariables false
set_option linter.unusedSimpArgs false

/-- A struct in block x. -/
def L4 (x : Nat) (W : World) (a : Int) (f : Int) (p : Int) (r : Int) : Prop :=
  x < W.heap.size ∧ W.cell? ⟨x, 0, none⟩ = some (.int .i64 a) ∧ W.cell? ⟨x, 1, none⟩ = some (.int .i64 f) ∧ W.cell? ⟨x, 2, none⟩ = some (.int .i64 p) ∧ W.cell? ⟨x, 3, none⟩ = some (.int .i64 r) ∧ ∀ o, o < 4 → W.frozen? ⟨x, o, none⟩ = false
theorem L4.keep {x : Nat} {W W' : World} {a : Int} {f : Int} {p : Int} {r : Int} (h : L4 x W a f p r) (hs : W.heap.size ≤ W'.heap.size) (hk : W'.heap[x]? = W.heap[x]?) : L4 x W' a f p r := by
  obtain ⟨h0, h1, h2, h3, h4, hf⟩ := h
  have e : ∀ o, W'.cell? ⟨x, o, none⟩ = W.cell? ⟨x, o, none⟩ := fun o => World.cell?_of_block hk
  exact ⟨Nat.lt_of_lt_of_le h0 hs, (e 0).trans h1, (e 1).trans h2, (e 2).trans h3, (e 3).trans h4, fun o ho => (World.frozen?_of_block hk).trans (hf o ho)⟩
theorem L4.below {x : Nat} {W W' : World} {a : Int} {f : Int} {p : Int} {r : Int} (h : L4 x W a f p r) (hb : Below W.heap.size W W') : L4 x W' a f p r := h.keep hb.size (hb.block x h.1)
theorem L4.far {x y o : Nat} {W : World} {a : Int} {f : Int} {p : Int} {r : Int} {z : Value} (h : L4 x W a f p r) (hn : x ≠ y) : L4 x (W.setCell ⟨y, o, none⟩ z) a f p r :=
  h.keep (by simp [World.setCell]) (Below.heap_setCell _ _ _ _ (by simpa using hn))
theorem L4.new (W : World) (a : Int) (f : Int) (p : Int) (r : Int) (T : TypeId) : L4 W.heap.size (W.alloc (.cells #[.int .i64 a, .int .i64 f, .int .i64 p, .int .i64 r] T)) a f p r := by
  refine ⟨by simp, by simp, by simp, by simp, by simp, fun o ho => ?_⟩
  simp
theorem L4.s0 {x : Nat} {W : World} {a : Int} {f : Int} {p : Int} {r : Int} (h : L4 x W a f p r) (a' : Int) : L4 x (W.setCell ⟨x, 0, none⟩ (.int .i64 a')) a' f p r := by
  obtain ⟨h0, h1, h2, h3, h4, hf⟩ := h
  exact ⟨by simp [World.setCell]; exact h0, (World.cell?_setCell_same _ _ _ h1), (World.cell?_setCell_other _ _ _ _ (by simp)).trans h2, (World.cell?_setCell_other _ _ _ _ (by simp)).trans h3, (World.cell?_setCell_other _ _ _ _ (by simp)).trans h4, fun o ho => by simp [hf o ho]⟩
theorem L4.s1 {x : Nat} {W : World} {a : Int} {f : Int} {p : Int} {r : Int} (h : L4 x W a f p r) (f' : Int) : L4 x (W.setCell ⟨x, 1, none⟩ (.int .i64 f')) a f' p r := by
  obtain ⟨h0, h1, h2, h3, h4, hf⟩ := h
  exact ⟨by simp [World.setCell]; exact h0, (World.cell?_setCell_other _ _ _ _ (by simp)).trans h1, (World.cell?_setCell_same _ _ _ h2), (World.cell?_setCell_other _ _ _ _ (by simp)).trans h3, (World.cell?_setCell_other _ _ _ _ (by simp)).trans h4, fun o ho => by simp [hf o ho]⟩
theorem L4.s2 {x : Nat} {W : World} {a : Int} {f : Int} {p : Int} {r : Int} (h : L4 x W a f p r) (p' : Int) : L4 x (W.setCell ⟨x, 2, none⟩ (.int .i64 p')) a f p' r := by
  obtain ⟨h0, h1, h2, h3, h4, hf⟩ := h
  exact ⟨by simp [World.setCell]; exact h0, (World.cell?_setCell_other _ _ _ _ (by simp)).trans h1, (World.cell?_setCell_other _ _ _ _ (by simp)).trans h2, (World.cell?_setCell_same _ _ _ h3), (World.cell?_setCell_other _ _ _ _ (by simp)).trans h4, fun o ho => by simp [hf o ho]⟩
theorem L4.s3 {x : Nat} {W : World} {a : Int} {f : Int} {p : Int} {r : Int} (h : L4 x W a f p r) (r' : Int) : L4 x (W.setCell ⟨x, 3, none⟩ (.int .i64 r')) a f p r' := by
  obtain ⟨h0, h1, h2, h3, h4, hf⟩ := h
  exact ⟨by simp [World.setCell]; exact h0, (World.cell?_setCell_other _ _ _ _ (by simp)).trans h1, (World.cell?_setCell_other _ _ _ _ (by simp)).trans h2, (World.cell?_setCell_other _ _ _ _ (by simp)).trans h3, (World.cell?_setCell_same _ _ _ h4), fun o ho => by simp [hf o ho]⟩
theorem l4_store {z : Nat} {W : World} {a f p r : Int} (h : L4 z W a f p r) (a' f' p' r' : Int) :
    ∃ W', (((W.setCell ⟨z, 0, none⟩ (.int .i64 a')).setCell ⟨z, 1, none⟩ (.int .i64 f')).setCell ⟨z, 2, none⟩ (.int .i64 p')).setCell ⟨z, 3, none⟩ (.int .i64 r') = W' ∧ L4 z W' a' f' p' r' ∧ Below z W W' :=
  ⟨_, rfl, (((h.s0 a').s1 f').s2 p').s3 r', ((((Below.refl _ _).setCell (Nat.le_refl z) _).setCell (Nat.le_refl z) _).setCell (Nat.le_refl z) _).setCell (Nat.le_refl z) _⟩
/-- All but block g and block b stands as it was. -/
def Fr (g b : Nat) (W w' : World) : Prop :=
  W.heap.size ≤ w'.heap.size ∧ (∀ i, i < W.heap.size → i ≠ g → i ≠ b → w'.heap[i]? = W.heap[i]?) ∧ ∀ L, L ≤ g → L ≤ b → L ≤ W.heap.size → Below L W w'
theorem Fr.of_below {g b : Nat} {W w' : World} (h : Below W.heap.size W w') : Fr g b W w' := ⟨h.size, fun i hi _ _ => h.block i hi, fun L _ _ hL => h.mono hL⟩
theorem Fr.vp {g b sz n : Nat} {W w1 w' : World} {cs : List Value} {v' : Value} (h : Fr g b W w1) (k : VPost sz b w1 n cs v' w') : Fr g b W w' := by
  obtain ⟨_, _, _, hs, ho, hl⟩ := k
  exact ⟨Nat.le_trans h.1 hs, fun i hi hg hb => (ho i (Nat.lt_of_lt_of_le hi h.1) hb).trans (h.2.1 i hi hg hb), fun L hg hb hL => (h.2.2 L hg hb hL).trans (hl L hb (Nat.le_trans hL h.1))⟩
theorem Fr.set {g b : Nat} {W w1 : World} (h : Fr g b W w1) (o : Nat) (v : Value) : Fr g b W (w1.setCell ⟨g, o, none⟩ v) :=
  ⟨by rw [size_set]; exact h.1, fun i hi hg hb => by rw [heap_other _ g o v i hg]; exact h.2.1 i hi hg hb, fun L hg hb hL => (h.2.2 L hg hb hL).setCell hg _⟩
theorem Fr.fb {g b : Nat} {W w1 w' : World} (h : Fr g b W w1) (k : Fb b w1 w') : Fr g b W w' :=
  ⟨by rw [k.1]; exact h.1, fun i hi hg hb => (k.2.1 i hb).trans (h.2.1 i hi hg hb), fun L hg hb hL => (h.2.2 L hg hb hL).trans (k.2.2 L hb (Nat.le_trans hL h.1))⟩
theorem Fr.below {g b : Nat} {W w1 w' : World} (h : Fr g b W w1) (k : Below w1.heap.size w1 w') : Fr g b W w' :=
  ⟨Nat.le_trans h.1 k.size, fun i hi hg hb => (k.block i (Nat.lt_of_lt_of_le hi h.1)).trans (h.2.1 i hi hg hb), fun L hg hb hL => (h.2.2 L hg hb hL).trans (k.mono (Nat.le_trans hL h.1))⟩
/-- The list at g has ms, in block b. -/
def LgAt (g b : Nat) (W : World) (ms : List La) : Prop := g < W.heap.size ∧ b ≠ g ∧ W.frozen? ⟨g, 0, none⟩ = false ∧ ∃ v, W.cell? ⟨g, 0, none⟩ = some v ∧ V4 b W v ms
theorem LgAt.keep {g b : Nat} {W W' : World} {ms : List La} (h : LgAt g b W ms) (hs : W.heap.size ≤ W'.heap.size) (hg : W'.heap[g]? = W.heap[g]?) (hb : b < W.heap.size → W'.heap[b]? = W.heap[b]?) : LgAt g b W' ms := by
  obtain ⟨h1, h2, h3, v, h4, h5⟩ := h
  exact ⟨Nat.lt_of_lt_of_le h1 hs, h2, (World.frozen?_of_block hg).trans h3, v, (World.cell?_of_block hg).trans h4, h5.keep hs hb⟩
theorem LgAt.below {g b : Nat} {W W' : World} {ms : List La} (h : LgAt g b W ms) (hb : Below W.heap.size W W') : LgAt g b W' ms := h.keep hb.size (hb.block g h.1) (hb.block b)
/-- What is nothing may lie in any block. -/
theorem LgAt.norm {g b : Nat} {W : World} {ms : List La} (h : LgAt g b W ms) : ∃ b2, LgAt g b2 W ms ∧ (b2 < W.heap.size ∨ W.heap.size + 100 ≤ b2) ∧ (b2 = b ∨ W.heap.size ≤ b2) := by
  obtain ⟨h1, h2, h3, v, h4, h5⟩ := h
  have h6 := h5
  obtain ⟨A, c, e, q1, q2, q3, q4, ⟨q5, q6, q7⟩ | ⟨off, e2, hl, _⟩⟩ := h6
  · subst e
    refine ⟨W.heap.size + 100, ⟨h1, by omega, h3, _, h4, A, c, rfl, q1, q2, q3, q4, .inl ⟨q5, q6, q7⟩⟩, .inr (Nat.le_refl _), .inr (by omega)⟩
  · exact ⟨b, ⟨h1, h2, h3, v, h4, h5⟩, .inl hl, .inl rfl⟩
theorem llen (g b : Nat) (W : World) (ms : List La) (h : LgAt g b W ms) : Calls Try.prog 20 #[.pointer (some ⟨g, 0, none⟩)] W fun e w' => e = .returned (.int .i64 (ms.length : Int)) ∧ W = w' := by
  obtain ⟨h1, h2, h3, v, h4, h5⟩ := h
  obtain ⟨A, c, rfl, -⟩ := h5
  go_enter Try.func20, Try.ntmps20
  go_wp2
  go_ret
  exact ⟨rfl, rfl⟩
theorem nllen (W : World) : Calls Try.prog 20 #[.pointer none] W fun e w' => e = .returned (.int .i64 0) ∧ W = w' := by
  go_enter Try.func20, Try.ntmps20
  go_wp2
  go_ret
  exact ⟨rfl, rfl⟩
theorem lall (g b : Nat) (W : World) (ms : List La) (h : LgAt g b W ms) (hn : ms.length ≤ 1000) : Calls Try.prog 19 #[.pointer (some ⟨g, 0, none⟩)] W (CloneL W ms) := by
  obtain ⟨h1, h2, h3, v, h4, h5⟩ := h
  have H5 := Lib.hid h5
  obtain ⟨A, c, rfl, -⟩ := h5
  go_enter Try.func19, Try.ntmps19
  go_wp2_with fail
  with_reducible refine Calls.mono (clone_large b _ ms _ H5.out hn) ?_
  rintro e w' ⟨b2, v2, rfl, hb2, hv, hb⟩
  have HV := Lib.hid hv
  obtain ⟨A2, c2, rfl, -⟩ := hv
  go_wp2
  go_ret
  exact ⟨b2, _, rfl, hb2, HV.out, hb⟩
theorem nlall (W : World) : Calls Try.prog 19 #[.pointer none] W fun e w' => e = .returned (.slice none 0 0) ∧ W = w' := by
  go_enter Try.func19, Try.ntmps19
  go_wp2
  go_ret
  exact ⟨rfl, rfl⟩
theorem lplace (g b : Nat) (W : World) (ms : List La) (h : LgAt g b W ms) (hn : ms.length ≤ 1000) (at_ : Int) (k : Nat) (hk : LBat ms at_ k) (F : Bool) (hF : fndB ms at_ k = F) : Calls Try.prog 28 #[.pointer (some ⟨g, 0, none⟩), .int .i64 at_] W fun e w' => e = .returned (.tuple #[.int .i64 (k : Int), .bool F]) ∧ Below W.heap.size W w' := by
  obtain ⟨h1, h2, h3, v, h4, h5⟩ := h
  have H5 := Lib.hid h5
  have HK := Lib.hid hk
  have HF := Lib.hid hF
  obtain ⟨A, c, rfl, -⟩ := h5
  clear hF hk
  go_enter Try.func28, Try.ntmps28
  go_wp2_with fail
  with_reducible refine Calls.mono (lbin b _ ms at_ k _ H5.out hn HK.out) ?_
  rintro e w' ⟨rfl, hb⟩
  rw [HF.out]
  go_wp2
  go_ret2
  exact ⟨rfl, hb⟩
set_option maxHeartbeats 1600000 in
theorem nlget (at_ : Int) (W : World) : Calls Try.prog 21 #[.pointer none, .int .i64 at_] W fun e w' => e = .returned (.tuple #[.agg #[.int .i64 0, .int .i64 0, .int .i64 0, .int .i64 0], .bool false]) ∧ Below W.heap.size W w' := by
  go_enter Try.func21, Try.ntmps21
  go_wp2
  refine bodyPost_ret (v := .tuple #[.agg #[.int .i64 0, .int .i64 0, .int .i64 0, .int .i64 0], .bool false]) (by simp [results, Try.results21, go_sem]) rfl ⟨rfl, alc0 _ _⟩
set_option maxHeartbeats 1600000 in
theorem lget_no (g b : Nat) (W : World) (ms : List La) (h : LgAt g b W ms) (hn : ms.length ≤ 1000) (at_ : Int) (k : Nat) (hk : LBat ms at_ k) (hF : fndB ms at_ k = false) : Calls Try.prog 21 #[.pointer (some ⟨g, 0, none⟩), .int .i64 at_] W fun e w' => e = .returned (.tuple #[.agg #[.int .i64 0, .int .i64 0, .int .i64 0, .int .i64 0], .bool false]) ∧ Below W.heap.size W w' := by
  have H := Lib.hid h
  have HK := Lib.hid hk
  have HF := Lib.hid hF
  clear h hk hF
  go_enter Try.func21, Try.ntmps21
  go_upto_region 3 with (fail)
  obtain ⟨z, hz⟩ : ∃ z, W.heap.size = z := ⟨_, rfl⟩
  obtain ⟨w1, hw1⟩ : ∃ w1, W.alloc (.cells #[.int .i64 0, .int .i64 0, .int .i64 0, .int .i64 0] 50) = w1 := ⟨_, rfl⟩
  have HZ : Hid (L4 z w1 0 0 0 0) := Lib.hid (by rw [← hw1, ← hz]; exact L4.new _ 0 0 0 0 _)
  have HL : Hid (LgAt g b w1 ms) := Lib.hid (by rw [← hw1]; exact H.out.below (alc0 _ _))
  have HB : Hid (Below W.heap.size W w1 ∧ W.heap.size = z) := Lib.hid (by rw [← hw1]; exact ⟨alc0 _ _, hz⟩)
  rw [hw1, hz]
  clear hw1 hz
  go_wp2_with fail
  with_reducible refine Calls.mono (lplace g b _ ms HL.out hn at_ k HK.out false HF.out) ?_
  rintro e w2 ⟨rfl, hb⟩
  have HZ2 := Lib.hid (HZ.out.below hb)
  have HB2 := Lib.hid (thn HB.out.1 hb)
  clear hb
  obtain ⟨hzl, k0, k1, k2, k3, kf⟩ := HZ2.out
  have kf0 := kf 0 (by decide)
  have kf1 := kf 1 (by decide)
  have kf2 := kf 2 (by decide)
  have kf3 := kf 3 (by decide)
  obtain ⟨ws, hws, hzs, hbs⟩ := l4_store HZ2.out 0 0 0 0
  obtain ⟨-, j0, j1, j2, j3, -⟩ := hzs
  have HE : Hid (Below W.heap.size W ws) := Lib.hid (HB2.out.trans (hbs.mono (by have := HB.out.2; omega)))
  clear kf hbs
  go_wp2
  refine bodyPost_ret (v := .tuple #[.agg #[.int .i64 0, .int .i64 0, .int .i64 0, .int .i64 0], .bool false]) (by simp [results, Try.results21, go_sem, j0, j1, j2, j3]) rfl ⟨rfl, HE.out⟩
set_option maxHeartbeats 1600000 in
theorem lget_yes (g b : Nat) (W : World) (ms : List La) (h : LgAt g b W ms) (hn : ms.length ≤ 1000) (at_ : Int) (k : Nat) (hk : LBat ms at_ k) (hF : fndB ms at_ k = true) (y : La) (hy : ms[k]? = some y) : Calls Try.prog 21 #[.pointer (some ⟨g, 0, none⟩), .int .i64 at_] W fun e w' => e = .returned (.tuple #[.agg #[.int .i64 y.at_, .int .i64 y.first, .int .i64 y.pages, .int .i64 y.room], .bool true]) ∧ Below W.heap.size W w' := by
  have H := Lib.hid h
  have HK := Lib.hid hk
  have HF := Lib.hid hF
  have HY := Lib.hid hy
  clear h hk hF hy
  go_enter Try.func21, Try.ntmps21
  go_upto_region 3 with (fail)
  obtain ⟨z, hz⟩ : ∃ z, W.heap.size = z := ⟨_, rfl⟩
  obtain ⟨w1, hw1⟩ : ∃ w1, W.alloc (.cells #[.int .i64 0, .int .i64 0, .int .i64 0, .int .i64 0] 50) = w1 := ⟨_, rfl⟩
  have HZ : Hid (L4 z w1 0 0 0 0) := Lib.hid (by rw [← hw1, ← hz]; exact L4.new _ 0 0 0 0 _)
  have HL : Hid (LgAt g b w1 ms) := Lib.hid (by rw [← hw1]; exact H.out.below (alc0 _ _))
  have HB : Hid (Below W.heap.size W w1 ∧ W.heap.size = z) := Lib.hid (by rw [← hw1]; exact ⟨alc0 _ _, hz⟩)
  rw [hw1, hz]
  clear hw1 hz
  go_wp2_with fail
  with_reducible refine Calls.mono (lplace g b _ ms HL.out hn at_ k HK.out true HF.out) ?_
  rintro e w2 ⟨rfl, hb⟩
  have HZ2 := Lib.hid (HZ.out.below hb)
  have HL2 := Lib.hid (HL.out.below hb)
  have HB2 := Lib.hid (thn HB.out.1 hb)
  clear hb HL
  obtain ⟨hgl, hbg, hgf, v, hv, hV⟩ := HL2.out
  rcases v4_open hV with ⟨_, e9⟩ | ⟨off, c', rfl, hbb, hlc, _, hcell⟩
  · have := HY.out
    rw [e9] at this
    simp at this
  have hkl : k < ms.length := (List.getElem?_eq_some_iff.1 HY.out).1
  obtain ⟨c0, c1, c2, c3⟩ := hcell k y HY.out
  obtain ⟨n, hnn⟩ : ∃ n, ms.length = n := ⟨_, rfl⟩
  rw [hnn] at hkl hlc hv hn
  have hkI : (k : Int) < (n : Int) := by omega
  obtain ⟨hzl, k0, k1, k2, k3, kf⟩ := HZ2.out
  have kf0 := kf 0 (by decide)
  have kf1 := kf 1 (by decide)
  have kf2 := kf 2 (by decide)
  have kf3 := kf 3 (by decide)
  obtain ⟨ws, hws, hzs, hbs⟩ := l4_store HZ2.out y.at_ y.first y.pages y.room
  obtain ⟨-, j0, j1, j2, j3, -⟩ := hzs
  have HE : Hid (Below W.heap.size W ws) := Lib.hid (HB2.out.trans (hbs.mono (by have := HB.out.2; omega)))
  clear kf hbs hcell hV hnn
  go_wp2
  refine bodyPost_ret (v := .tuple #[.agg #[.int .i64 y.at_, .int .i64 y.first, .int .i64 y.pages, .int .i64 y.room], .bool true]) (by simp [results, Try.results21, go_sem, j0, j1, j2, j3]) rfl ⟨rfl, HE.out⟩
end Go.Proofs.Ytohamecjiidjdaa
