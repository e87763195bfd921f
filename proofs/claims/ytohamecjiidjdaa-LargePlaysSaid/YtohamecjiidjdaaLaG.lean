/- Package large: Put. -/
import Derived.Test.YtohamecjiidjdaaLaF
import Derived.Deep.RegionHeld3
namespace Go.Proofs.Ytohamecjiidjdaa
open Go.RowKit
set_option linter.unusedVariables false
set_option linter.unusedSimpArgs false

theorem lins (b vb k : Nat) (v : Value) (ms : List La) (y : La) (W : World) (h : V4 b W v ms) (hn : ms.length ≤ 1000) (hk : k ≤ ms.length) (hy : One vb W y) (hvb : vb ≠ b) :
    Calls Try.prog 30 #[v, .int .i64 (k : Int), .slice (some ⟨vb, 0, none⟩) 1 1] W (InsPost b W (insL ms k y)) := by
  by_cases he : k = ms.length
  · subst he
    exact lins_end b vb v ms y W h hn hy
  · rcases v4_open h with ⟨_, e⟩ | ⟨off, c, rfl, hb, hlc, _, _⟩
    · subst e
      simp at hk he
      omega
    · by_cases hr : ms.length + 1 ≤ c
      · exact lins_shift b off c k vb ms y W h hn (by omega) hr hy hvb
      · exact lins_grow b off c k vb ms y W h hn (by omega) (by omega) hy
theorem LgAt.at2 {g b : Nat} {W w2 : World} {ms : List La} (h : LgAt g b W ms) (hb : Below W.heap.size W w2) : ∃ b2, LgAt g b2 w2 ms ∧ (b2 < W.heap.size ∨ w2.heap.size + 100 ≤ b2) ∧ (b2 = b ∨ W.heap.size ≤ b2) := by
  have h0 := h.below hb
  obtain ⟨h1, h2, h3, v, h4, h5⟩ := h
  have h6 := h5
  obtain ⟨A, c, e, q1, q2, q3, q4, ⟨q5, q6, q7⟩ | ⟨off, e2, hl, _⟩⟩ := h6
  · subst e
    obtain ⟨k1, k2, k3, v', k4, k5⟩ := h0
    have hs := hb.size
    have e3 : v' = .slice A ms.length c := by
      have := (hb.cell (p := ⟨g, 0, none⟩) h1).trans h4
      rw [this] at k4
      exact (Option.some.inj k4).symm
    subst e3
    refine ⟨w2.heap.size + 100, ⟨k1, by omega, k3, _, k4, A, c, rfl, q1, q2, q3, q4, .inl ⟨q5, q6, q7⟩⟩, .inr (Nat.le_refl _), .inr (by omega)⟩
  · exact ⟨b, h0, .inl hl, .inl rfl⟩
theorem nlput (y : La) (W : World) : Calls Try.prog 18 #[.pointer none, .agg #[.int .i64 y.at_, .int .i64 y.first, .int .i64 y.pages, .int .i64 y.room]] W fun e w' => e = .returned (.int .i64 1) ∧ Below W.heap.size W w' := by
  go_enter Try.func18, Try.ntmps18
  go_wp2
  go_ret
  exact ⟨rfl, alc0 _ _⟩
theorem lput_dup (g b : Nat) (W : World) (ms : List La) (y : La) (h : LgAt g b W ms) (hn : ms.length ≤ 900) (k : Nat) (hk : LBat ms y.at_ k) (hF : fndB ms y.at_ k = true) : Calls Try.prog 18 #[.pointer (some ⟨g, 0, none⟩), .agg #[.int .i64 y.at_, .int .i64 y.first, .int .i64 y.pages, .int .i64 y.room]] W fun e w' => e = .returned (.int .i64 3) ∧ Below W.heap.size W w' := by
  have H := Lib.hid (h.below (alc0 W (.cells #[.int .i64 y.at_, .int .i64 y.first, .int .i64 y.pages, .int .i64 y.room] 50)))
  have HK := Lib.hid hk
  have HF := Lib.hid hF
  clear h hk hF
  go_enter Try.func18, Try.ntmps18
  go_wp2_with fail
  with_reducible refine Calls.mono (lplace g b _ ms H.out (by omega) y.at_ k HK.out true HF.out) ?_
  rintro e w2 ⟨rfl, hb⟩
  go_wp2
  go_ret
  exact ⟨rfl, thn (alc0 _ _) hb⟩
def PutPost (g b : Nat) (W : World) (ms : List La) (e : Ending) (w' : World) : Prop := e = .returned (.int .i64 0) ∧ ∃ b2 b', LgAt g b' w' ms ∧ Fr g b2 W w' ∧ (b2 = b ∨ W.heap.size ≤ b2) ∧ (b' = b2 ∨ W.heap.size ≤ b')
theorem put_end {g b b2 : Nat} {W w2 w3 w4 : World} {ms2 : List La} {v' old : Value} (hgW : g < W.heap.size) (hbg : b2 ≠ g) (hB : Below W.heap.size W w2) (h3 : Below w2.heap.size w2 w3) (hp : VPost 4 b2 w3 ms2.length (ms2.flatMap enc4) v' w4) (hbb : b2 = b ∨ W.heap.size ≤ b2) (hg4 : w4.cell? ⟨g, 0, none⟩ = some old) (hf4 : w4.frozen? ⟨g, 0, none⟩ = false) :
    PutPost g b W ms2 (.returned (.int .i64 0)) (w4.setCell ⟨g, 0, none⟩ v') := by
  have hfr : Fr g b2 W w4 := ((Fr.of_below hB).below h3).vp hp
  obtain ⟨b', hb', hz, hs, ho, hl⟩ := hp
  have hs2 := hB.size
  have hs3 := h3.size
  have hbg' : b' ≠ g := by omega
  refine ⟨rfl, b2, b', ⟨by rw [size_set]; exact World.block_lt_of_cell? w4 _ hg4, hbg', by rw [World.frozen?_setCell]; exact hf4, v', World.cell?_setCell_same _ _ _ hg4, hz.far hbg'⟩, hfr.set 0 v', hbb, ?_⟩
  rcases hb' with h | h
  · exact .inl h
  · exact .inr (by omega)
set_option maxRecDepth 100000 in
set_option maxHeartbeats 6400000 in
theorem lput_new (g b : Nat) (W : World) (ms : List La) (y : La) (h : LgAt g b W ms) (hn : ms.length ≤ 900) (k : Nat) (hk : LBat ms y.at_ k) (hF : fndB ms y.at_ k = false) : Calls Try.prog 18 #[.pointer (some ⟨g, 0, none⟩), .agg #[.int .i64 y.at_, .int .i64 y.first, .int .i64 y.pages, .int .i64 y.room]] W (PutPost g b W (insL ms k y)) := by
  have H := Lib.hid h
  have HK := Lib.hid hk
  have HF := Lib.hid hF
  have hgW := h.1
  clear h hk hF
  go_enter Try.func18, Try.ntmps18
  go_upto_region 3 with (fail)
  obtain ⟨z, hz⟩ : ∃ z, W.heap.size = z := ⟨_, rfl⟩
  obtain ⟨w1, hw1⟩ : ∃ w1, W.alloc (.cells #[.int .i64 y.at_, .int .i64 y.first, .int .i64 y.pages, .int .i64 y.room] 50) = w1 := ⟨_, rfl⟩
  have HZ : Hid (L4 z w1 y.at_ y.first y.pages y.room) := Lib.hid (by rw [← hw1, ← hz]; exact L4.new _ _ _ _ _ _)
  have HB : Hid (Below W.heap.size W w1 ∧ W.heap.size = z) := Lib.hid (by rw [← hw1]; exact ⟨alc0 _ _, hz⟩)
  rw [hw1, hz]
  clear hw1 hz
  obtain ⟨hzl, k0, k1, k2, k3, -⟩ := HZ.out
  go_wp2_with fail
  with_reducible refine Calls.mono (lplace g b _ ms (H.out.below HB.out.1) (by omega) y.at_ k HK.out false HF.out) ?_
  rintro e w2 ⟨rfl, hb⟩
  have hB2 : Below W.heap.size W w2 := thn HB.out.1 hb
  obtain ⟨b2, hL2, hbc, hbb⟩ := H.out.at2 hB2
  have HZ2 := Lib.hid (HZ.out.below hb)
  have HL2 := Lib.hid hL2
  have HB2 := Lib.hid hB2
  have hzb : z ≠ b2 := by have := HB.out.2; have := HZ2.out.1; omega
  have hvb : w2.heap.size ≠ b2 := by have := hB2.size; omega
  have HBB := Lib.hid hbb
  have hzg : z ≠ g := by have := HB.out.2; omega
  clear hb hB2 hL2 hbc hbb HZ hzl k0 k1 k2 k3
  obtain ⟨hgl, hbg, hgf, v, hgv, hV⟩ := HL2.out
  have HV := Lib.hid hV
  obtain ⟨A, c, ev, -⟩ := hV
  subst ev
  obtain ⟨n, hnn⟩ : ∃ n, ms.length = n := ⟨_, rfl⟩
  rw [hnn] at hgv HV hn
  have HN := Lib.hid hnn
  clear hnn
  obtain ⟨hzl, k0, k1, k2, k3, -⟩ := HZ2.out
  have HKL : Hid (k ≤ ms.length) := Lib.hid HK.out.1
  have HGG := Lib.hid (And.intro hgv (And.intro hgf hgl))
  go_upto_region 6 with (fail)
  go_region_with ((refine (lins b2 w2.heap.size k _ ms y _ (HV.out.below (alc0 w2 _).drew) (by have := HN.out; omega) HKL.out (One.new w2 y _) hvb).mono ?_); rintro e w4 ⟨v', rfl, hvp⟩; have HVP := Lib.hid hvp; obtain ⟨b', hb', hz', hs', ho', hl'⟩ := hvp; obtain ⟨A', c', rfl, -⟩ := hz'; have hg4 := (World.cell?_of_block (a := ⟨g, 0, none⟩) ((ho' g (by simp [World.drew]; omega) (Ne.symm hbg)).trans ((alc0 w2 _).block g hgl))).trans HGG.out.1; have hf4 := (World.frozen?_of_block (a := ⟨g, 0, none⟩) ((ho' g (by simp [World.drew]; omega) (Ne.symm hbg)).trans ((alc0 w2 _).block g hgl))).trans HGG.out.2.1; clear hb' hs' ho' hl')
  all_goals
    go_wp2
    go_ret
    exact put_end hgW hbg HB2.out ((alc0 w2 _).drew) HVP.out HBB.out hg4 hf4
end Go.Proofs.Ytohamecjiidjdaa
