/- MoZ. -/
import Derived.Test.YtanmmhbnjmglhaaZ30
import Derived.Deep.AppendLies
namespace Go.Proofs.Ytanmmhbnjmglhaa
set_option maxRecDepth 100000
open Go.RowKit Go.ChangeMaps Go.MapKept
set_option linter.unusedVariables false
set_option linter.unusedSimpArgs false
section
variable {C : Cf} {L : Option Addr} {r ll lc k kc : Nat} {W : World}
theorem row5 (w : World) (g a : Nat) (v0 v1 v2 v3 v4 : Value) (h : ∀ j, j < 5 → (w.cell? ⟨g, a * 5 + j, none⟩).isSome = true) (w' : World) (hw : w' = ((((w.setCell ⟨g, a * 5, none⟩ v0).setCell ⟨g, a * 5 + 1, none⟩ v1).setCell ⟨g, a * 5 + 2, none⟩ v2).setCell ⟨g, a * 5 + 3, none⟩ v3).setCell ⟨g, a * 5 + 4, none⟩ v4) :
    w'.heap.size = w.heap.size ∧ (∀ i, i ≠ g → w'.heap[i]? = w.heap[i]?) ∧ (∀ L, L ≤ g → Below L w w') ∧ w'.cell? ⟨g, a * 5, none⟩ = some v0 ∧ w'.cell? ⟨g, a * 5 + 1, none⟩ = some v1 ∧ w'.cell? ⟨g, a * 5 + 2, none⟩ = some v2 ∧ w'.cell? ⟨g, a * 5 + 3, none⟩ = some v3 ∧ w'.cell? ⟨g, a * 5 + 4, none⟩ = some v4 := by
  have e : w' = w.setCells g (a * 5) [v0, v1, v2, v3, v4] := hw
  clear hw
  subst e
  have hin := World.cell?_setCells_in g [v0, v1, v2, v3, v4] (a * 5) w (fun j hj => h j hj)
  exact ⟨setCells_size _ _ _ _, fun i hi => setCells_other g _ _ _ _ hi, fun L hL => setCells_below L g hL _ _ w w (Below.refl _ _), hin 0 (by simp), hin 1 (by simp), hin 2 (by simp), hin 3 (by simp), hin 4 (by simp)⟩
/-- What set leaves: a model with other registers. -/
def RSetPost (C : Cf) (L : Option Addr) (ll lc k a : Nat) (c o l u p : Int) (W : World) (e : Ending) (w' : World) : Prop :=
  ∃ g cap, e = .returned (rmv C L ll lc (some ⟨g, 0, none⟩) k cap) ∧ RfAt w' g (a * 5) ⟨c, o, l, u, p⟩ ∧ W.heap.size ≤ g ∧ g < w'.heap.size ∧ Below W.heap.size W w'
set_option maxHeartbeats 1600000 in
theorem rset (a : Nat) (c o l u p : Int) (ha : a < k) (hk : k ≤ 64) (h : RZ r k W) : Calls Try.prog 29 #[rmv C L ll lc (some ⟨r, 0, none⟩) k kc, .int .i64 (a : Int), .agg #[.int .i64 c, .int .i64 o, .int .i64 l, .int .i64 u, .int .i64 p]] W (RSetPost C L ll lc k a c o l u p W) := by
  obtain ⟨i0, hi0, hz0, hz1, hz2⟩ := info_parts infoRR
  have hr := h.2
  obtain ⟨vs, hvs⟩ : ∃ vs : List Value, vs = List.replicate (k * 5) (.int .i64 0) := ⟨_, rfl⟩
  have hl : vs.length = k * 5 := by rw [hvs]; simp
  have hone : ∀ u ∈ vs, u.oneCell' = true := fun u hu => by rw [hvs] at hu; rw [(List.mem_replicate.1 hu).2]; rfl
  have HN : Hid (∀ j u, vs[j]? = some u → W.cell? ⟨r, j, none⟩ = some u) := Lib.hid fun j u hj => by
    have hj2 : j < k * 5 := by rw [← hl]; exact (List.getElem?_eq_some_iff.1 hj).1
    rw [hvs, List.getElem?_replicate, if_pos hj2] at hj
    rw [← hj]; exact h.1 j hj2
  have HO := Lib.hid hone
  clear h hvs hone
  go_enter Try.func29, Try.ntmps29
  go_upto_region 1 with (fail)
  obtain ⟨w1, hw1⟩ : ∃ w1, ((W.alloc (.cells #[.int .i64 C.pg, .int .i64 C.rg, .int .i64 C.lg, .int .i64 C.th, .int .i64 C.ca, .int .i64 C.ba, .int .i64 C.sh, .int .i64 C.re, .int .i64 C.mo, .int .i64 C.fi, .int .u64 C.ky, .slice L ll lc, .slice (some ⟨r, 0, none⟩) k kc] 34)).alloc (.cells #[.int .i64 c, .int .i64 o, .int .i64 l, .int .i64 u, .int .i64 p] 54)).alloc (.cells #[.int .i64 0, .int .i64 0, .int .i64 0, .int .i64 0, .int .i64 0, .int .i64 0, .int .i64 0, .int .i64 0, .int .i64 0, .int .i64 0, .int .u64 0, .slice none 0 0, .slice none 0 0] 34) = w1 := ⟨_, rfl⟩
  have bw1 : Below W.heap.size W w1 := by rw [← hw1]; exact alc (alc (alc0 _ _) _) _
  have sw1 : w1.heap.size = W.heap.size + 3 := by rw [← hw1]; simp
  have XM : Hid (BX (W.heap.size) #[.int .i64 C.pg, .int .i64 C.rg, .int .i64 C.lg, .int .i64 C.th, .int .i64 C.ca, .int .i64 C.ba, .int .i64 C.sh, .int .i64 C.re, .int .i64 C.mo, .int .i64 C.fi, .int .u64 C.ky, .slice L ll lc, .slice (some ⟨r, 0, none⟩) k kc] w1) := Lib.hid (by rw [← hw1]; exact (bx_new _ _ _).block ((alc (alc0 _ _) _).block _ (by simp)))
  have XX : Hid (BX (W.heap.size + 1) #[.int .i64 c, .int .i64 o, .int .i64 l, .int .i64 u, .int .i64 p] w1) := Lib.hid (by rw [← hw1]; exact (bx_at _ _ _ (by simp)).block ((alc0 _ _).block _ (by simp)))
  have XZ : Hid (BX (W.heap.size + 1 + 1) #[.int .i64 0, .int .i64 0, .int .i64 0, .int .i64 0, .int .i64 0, .int .i64 0, .int .i64 0, .int .i64 0, .int .i64 0, .int .i64 0, .int .u64 0, .slice none 0 0, .slice none 0 0] w1) := Lib.hid (by rw [← hw1]; exact bx_at _ _ _ (by simp))
  rw [hw1]
  clear hw1
  have HB := Lib.hid bw1
  clear bw1
  obtain ⟨cM0, cM1, cM2, cM3, cM4, cM5, cM6, cM7, cM8, cM9, cM10, cM11, cM12⟩ := XM.out.c13
  have hn2 : ∀ T, ∀ j u, vs[j]? = some u → (w1.alloc (.cells #[] T)).cell? ((⟨r, 0, none⟩ : Addr).add j) = some u := fun T j u hj => by
    rw [addp, Nat.zero_add]
    exact Lib.cell?_alloc_some _ ((World.cell?_of_block (HB.out.block r hr)).trans (HN.out j u hj))
  have HN2 := Lib.hid hn2
  clear hn2
  have how : (w1.alloc (.cells #[] 54)).ownsRow (W.heap.size + 3) 54 5 (.slice (some ⟨W.heap.size + 3, 0, none⟩) 0 0) 0 [] := by rw [← sw1]; exact World.ownsRow_lit w1 #[] 0 (Nat.le_refl _) (by omega) rfl
  have HOW := Lib.hid how
  clear how
  go_wp2_with (at_builtin; go_loud (refine wpList_append_lies _ rfl _ _ 32 rfl (W.heap.size + 3) 54 i0 z5 5 40 Try.underlying32 hi0 hz0 hz1 hz2 rfl (by decide) (.slice (some ⟨W.heap.size + 3, 0, none⟩) 0 0) 0 [] rfl HOW.out ⟨r, 0, none⟩ k kc vs rfl hl ?c2 ?c3 (by omega) ?c4 (by omega) (by simp [sw1]) (W.heap.size + 4) (by simp [sw1]) ?_))
  case c2 => exact HN2.out _
  case c3 => exact HO.out
  case c4 => unfold maxLen; omega
  intro g cap w2 hown hgrow hat hlt
  clear cM0 cM1 cM2 cM3 cM4 cM5 cM6 cM7 cM8 cM9 cM10 cM11 cM12
  have bw2 : Below w1.heap.size w1 w2 := (alc0 w1 _).grown hgrow (by simp) (fun j hj => by simp [Value.ownBlock] at hj; omega)
  have hg : w1.heap.size ≤ g := by
    rcases hat with h | h
    · simp [Value.ownBlock] at h; omega
    · omega
  clear hgrow hat
  try simp only [Nat.zero_add] at hown
  try simp only [Nat.zero_add]
  have sw2 := bw2.size
  replace XM := Lib.hid (XM.out.block (bw2.block (W.heap.size) (by omega)))
  replace XX := Lib.hid (XX.out.block (bw2.block (W.heap.size + 1) (by omega)))
  replace XZ := Lib.hid (XZ.out.block (bw2.block (W.heap.size + 1 + 1) (by omega)))
  replace HB := Lib.hid (thn HB.out bw2)
  clear bw2
  have hrow : ∀ j, j < 5 → (w2.cell? ⟨g, a * 5 + j, none⟩).isSome = true ∧ w2.frozen? ⟨g, a * 5 + j, none⟩ = false := fun j hj => by
    have hlen := hown.1
    have hj2 : a * 5 + j < ([] ++ vs).length := by rw [List.nil_append, hl]; omega
    have h1 := hown.cells (g := g) rfl (a * 5 + j) _ (List.getElem?_eq_getElem hj2)
    rw [addp, Nat.zero_add] at h1
    refine ⟨by rw [h1]; rfl, ?_⟩
    rcases hown.2 with ⟨h2, _⟩ | ⟨g2, cap2, cur, h2, _, hh, _⟩
    · simp at h2
    · injection h2 with h2 _ _; injection h2 with h2; injection h2 with h2 _ _
      subst h2
      simp [World.frozen?, hh]
  clear hown
  have HR := Lib.hid hrow
  clear hrow
  obtain ⟨cM0, cM1, cM2, cM3, cM4, cM5, cM6, cM7, cM8, cM9, cM10, cM11, cM12⟩ := XM.out.c13
  obtain ⟨fM0, fM1, fM2, fM3, fM4, fM5, fM6, fM7, fM8, fM9, fM10, fM11, fM12⟩ := XM.out.f13
  go_upto_region 2 with (fail)
  obtain ⟨w3, hw3⟩ : ∃ w3, w3 = w2.setCell ⟨W.heap.size, 12, none⟩ (.slice (some ⟨g, 0, none⟩) k cap) := ⟨_, rfl⟩
  rw [← hw3]
  obtain ⟨sw3, kw3, lw3, XMn⟩ := XM.out.put1 #[.int .i64 C.pg, .int .i64 C.rg, .int .i64 C.lg, .int .i64 C.th, .int .i64 C.ca, .int .i64 C.ba, .int .i64 C.sh, .int .i64 C.re, .int .i64 C.mo, .int .i64 C.fi, .int .u64 C.ky, .slice L ll lc, .slice (some ⟨g, 0, none⟩) k cap] 12 (.slice (some ⟨g, 0, none⟩) k cap) rfl (by simp) w3 hw3
  clear hw3
  clear cM0 cM1 cM2 cM3 cM4 cM5 cM6 cM7 cM8 cM9 cM10 cM11 cM12 fM0 fM1 fM2 fM3 fM4 fM5 fM6 fM7 fM8 fM9 fM10 fM11 fM12
  replace XM := Lib.hid XMn
  clear XMn
  replace XX := Lib.hid (XX.out.block (kw3 (W.heap.size + 1) (by omega)))
  replace XZ := Lib.hid (XZ.out.block (kw3 (W.heap.size + 1 + 1) (by omega)))
  replace HB := Lib.hid (HB.out.trans (lw3 W.heap.size (by omega)))
  have kw3s := kw3
  clear kw3 lw3
  have HR2 : Hid (∀ j, j < 5 → (w3.cell? ⟨g, a * 5 + j, none⟩).isSome = true ∧ w3.frozen? ⟨g, a * 5 + j, none⟩ = false) := Lib.hid fun j hj => by rw [World.cell?_of_block (a := ⟨g, a * 5 + j, none⟩) (kw3s g (by omega)), World.frozen?_of_block (a := ⟨g, a * 5 + j, none⟩) (kw3s g (by omega))]; exact HR.out j hj
  clear kw3s HR
  obtain ⟨cM0, cM1, cM2, cM3, cM4, cM5, cM6, cM7, cM8, cM9, cM10, cM11, cM12⟩ := XM.out.c13
  obtain ⟨cX0, cX1, cX2, cX3, cX4⟩ := XX.out.c5
  obtain ⟨i0, hi0⟩ := Option.isSome_iff_exists.1 (HR2.out 0 (by decide)).1
  obtain ⟨i1, hi1⟩ := Option.isSome_iff_exists.1 (HR2.out 1 (by decide)).1
  obtain ⟨i2, hi2⟩ := Option.isSome_iff_exists.1 (HR2.out 2 (by decide)).1
  obtain ⟨i3, hi3⟩ := Option.isSome_iff_exists.1 (HR2.out 3 (by decide)).1
  obtain ⟨i4, hi4⟩ := Option.isSome_iff_exists.1 (HR2.out 4 (by decide)).1
  have j0 := (HR2.out 0 (by decide)).2
  have j1 := (HR2.out 1 (by decide)).2
  have j2 := (HR2.out 2 (by decide)).2
  have j3 := (HR2.out 3 (by decide)).2
  have j4 := (HR2.out 4 (by decide)).2
  simp only [Nat.add_zero] at hi0 j0
  go_upto_region 3 with (fail)
  obtain ⟨w4, hw4⟩ : ∃ w4, w4 = ((((w3.setCell ⟨g, a * 5, none⟩ (.int .i64 c)).setCell ⟨g, a * 5 + 1, none⟩ (.int .i64 o)).setCell ⟨g, a * 5 + 2, none⟩ (.int .i64 l)).setCell ⟨g, a * 5 + 3, none⟩ (.int .i64 u)).setCell ⟨g, a * 5 + 4, none⟩ (.int .i64 p) := ⟨_, rfl⟩
  rw [← hw4]
  obtain ⟨sw4, kw4, lw4, r0, r1, r2, r3, r4⟩ := row5 w3 g a _ _ _ _ _ (fun j hj => (HR2.out j hj).1) w4 hw4
  have HQ : Hid (RfAt w4 g (a * 5) ⟨c, o, l, u, p⟩) := Lib.hid ⟨r0, r1, r2, r3, r4⟩
  clear hw4 r0 r1 r2 r3 r4 hi0 hi1 hi2 hi3 hi4 j0 j1 j2 j3 j4
  clear cM0 cM1 cM2 cM3 cM4 cM5 cM6 cM7 cM8 cM9 cM10 cM11 cM12 cX0 cX1 cX2 cX3 cX4
  replace XM := Lib.hid (XM.out.block (kw4 (W.heap.size) (by omega)))
  replace XX := Lib.hid (XX.out.block (kw4 (W.heap.size + 1) (by omega)))
  replace XZ := Lib.hid (XZ.out.block (kw4 (W.heap.size + 1 + 1) (by omega)))
  replace HB := Lib.hid (HB.out.trans (lw4 W.heap.size (by omega)))
  clear kw4 lw4
  obtain ⟨cM0, cM1, cM2, cM3, cM4, cM5, cM6, cM7, cM8, cM9, cM10, cM11, cM12⟩ := XM.out.c13
  obtain ⟨cZ0, cZ1, cZ2, cZ3, cZ4, cZ5, cZ6, cZ7, cZ8, cZ9, cZ10, cZ11, cZ12⟩ := XZ.out.c13
  obtain ⟨fZ0, fZ1, fZ2, fZ3, fZ4, fZ5, fZ6, fZ7, fZ8, fZ9, fZ10, fZ11, fZ12⟩ := XZ.out.f13
  go_wp2_with fail
  obtain ⟨w5, hw5⟩ : ∃ w5, w5 = sets13 w4 (W.heap.size + 1 + 1) (.int .i64 C.pg) (.int .i64 C.rg) (.int .i64 C.lg) (.int .i64 C.th) (.int .i64 C.ca) (.int .i64 C.ba) (.int .i64 C.sh) (.int .i64 C.re) (.int .i64 C.mo) (.int .i64 C.fi) (.int .u64 C.ky) (.slice L ll lc) (.slice (some ⟨g, 0, none⟩) k cap) := ⟨_, rfl⟩
  obtain ⟨sw5, kw5, lw5, XZn⟩ := XZ.out.put13s rfl hw5
  unfold sets13 at hw5
  rw [← hw5]
  clear hw5
  clear cM0 cM1 cM2 cM3 cM4 cM5 cM6 cM7 cM8 cM9 cM10 cM11 cM12 cZ0 cZ1 cZ2 cZ3 cZ4 cZ5 cZ6 cZ7 cZ8 cZ9 cZ10 cZ11 cZ12 fZ0 fZ1 fZ2 fZ3 fZ4 fZ5 fZ6 fZ7 fZ8 fZ9 fZ10 fZ11 fZ12
  replace XZ := Lib.hid XZn
  clear XZn
  replace XM := Lib.hid (XM.out.block (kw5 (W.heap.size) (by omega)))
  replace XX := Lib.hid (XX.out.block (kw5 (W.heap.size + 1) (by omega)))
  replace HB := Lib.hid (HB.out.trans (lw5 W.heap.size (by omega)))
  have kw5s := kw5
  clear kw5 lw5
  replace HQ := Lib.hid (HQ.out.keep (kw5s g (by omega)))
  obtain ⟨cZ0, cZ1, cZ2, cZ3, cZ4, cZ5, cZ6, cZ7, cZ8, cZ9, cZ10, cZ11, cZ12⟩ := XZ.out.c13
  refine bodyPost_ret (v := rmv C L ll lc (some ⟨g, 0, none⟩) k cap) (by simp [results, Try.results29, go_sem, cZ0, cZ1, cZ2, cZ3, cZ4, cZ5, cZ6, cZ7, cZ8, cZ9, cZ10, cZ11, cZ12]) rfl ⟨g, cap, rfl, HQ.out, by omega, by omega, HB.out⟩
end
end Go.Proofs.Ytanmmhbnjmglhaa
