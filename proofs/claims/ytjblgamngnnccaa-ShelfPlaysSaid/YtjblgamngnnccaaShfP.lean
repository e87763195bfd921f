/- Contracts of package shelf: Put. -/
import Derived.Test.YtjblgamngnnccaaShfD
import Derived.Deep.DeepCutAuto
import Derived.BigQuiet
import Derived.WalkSmall
namespace Go.Proofs.Ytjblgamngnnccaa
open Go.RowKit
set_option linter.unusedVariables false
set_option linter.unusedSimpArgs false

theorem ShB.renil {g b b' : Nat} {W : World} {k : Int} (h : ShB g b W k []) (hv : W.cell? ⟨g, 1, none⟩ = some (.slice none 0 0)) (hb : b' ≠ g) : ShB g b' W k [] := by
  obtain ⟨h1, h2, h3, h4, v, h5, h6⟩ := h
  exact ⟨h1, hb, h3, h4, _, hv, vz_nil _ _ _⟩
theorem nsput (a0 a1 : Int) (W : World) :
    Calls Try.prog 21 #[.pointer none, .agg #[.int .i64 a0, .int .i64 a1]] W fun e w' => e = .returned (.tuple #[.agg #[.int .i64 a0, .int .i64 a1], .bool true]) ∧ Below W.heap.size W w' := by
  go_enter Try.func21, Try.ntmps21
  go_wp2
  refine bodyPost_ret (v := .tuple #[.agg #[.int .i64 a0, .int .i64 a1], .bool true]) (by simp [results, Try.results21, go_sem]) rfl ⟨rfl, alc (alc0 _ _) _⟩
theorem sput0 (g b : Nat) (a0 a1 : Int) (ms : List Ar) (W : World) (h : ShB g b W 0 ms) :
    Calls Try.prog 21 #[.pointer (some ⟨g, 0, none⟩), .agg #[.int .i64 a0, .int .i64 a1]] W fun e w' => e = .returned (.tuple #[.agg #[.int .i64 a0, .int .i64 a1], .bool true]) ∧ Below W.heap.size W w' := by
  obtain ⟨h1, h2, h3, h4, v, h5, h6⟩ := h
  clear h5 h6
  go_enter Try.func21, Try.ntmps21
  go_wp2
  refine bodyPost_ret (v := .tuple #[.agg #[.int .i64 a0, .int .i64 a1], .bool true]) (by simp [results, Try.results21, go_sem]) rfl ⟨rfl, alc (alc0 _ _) _⟩
theorem new2 (W : World) (x y : Int) (E : TypeId) : ∀ j u, ([.int .i64 x, .int .i64 y] : List Value)[j]? = some u → (W.alloc (.cells #[.int .i64 x, .int .i64 y] E)).cell? ((⟨W.heap.size, 0, none⟩ : Addr).add j) = some u := by
  intro j u hu
  rw [addp]
  match j with
  | 0 => simp at hu; subst hu; simp
  | 1 => simp at hu; subst hu; simp
  | j + 2 => simp at hu
theorem Fr.drw {g b : Nat} {W w1 : World} (h : Fr g b W w1) (n : Nat) : Fr g b W (w1.drewN n) := ⟨h.1, h.2.1, fun L a c d => below_drewN (h.2.2 L a c d) n⟩
theorem ShB.drw {g b : Nat} {W : World} {k : Int} {ms : List Ar} (h : ShB g b W k ms) (n : Nat) : ShB g b (W.drewN n) k ms := h.keep (Nat.le_refl _) rfl (fun _ => rfl)
def PutPost (g b : Nat) (W : World) (k : Int) (ms : List Ar) (p : Ar) (e : Ending) (w' : World) : Prop :=
  ∃ b', (b' = b ∨ W.heap.size ≤ b') ∧ Fr g b W w' ∧
    (((ms.length : Int) + 1 ≤ k ∧ ShB g b' w' k (ms ++ [p]) ∧ e = .returned (.tuple #[.agg #[.int .i64 0, .int .i64 0], .bool false])) ∨
     (k < (ms.length : Int) + 1 ∧ ShB g b' w' k (ms ++ [p]).tail ∧ ∃ q r, ms ++ [p] = q :: r ∧ e = .returned (.tuple #[.agg #[.int .i64 q.1, .int .i64 q.2], .bool true])))
set_option maxHeartbeats 1600000 in
theorem sput_core (g b : Nat) (k : Int) (ms : List Ar) (p : Ar) (W : World) (h : ShB g b W k ms) (hk : 1 ≤ k) (hk2 : k ≤ 16) (hsm : ms.length ≤ 900) (hb0 : b ≠ W.heap.size) (hb1 : b ≠ W.heap.size + 1) :
    Calls Try.prog 21 #[.pointer (some ⟨g, 0, none⟩), .agg #[.int .i64 p.1, .int .i64 p.2]] W (PutPost g b W k ms p) := by
  have H := Lib.hid h
  obtain ⟨h1, h2, h3, h4, v, h5, h6⟩ := h
  have hsh := h6
  obtain ⟨A, c, rfl, _⟩ := hsh
  have hk0 : (k == 0) = false := by rw [beq_eq_false_iff_ne]; omega
  have f0 := h3 0
  have f1 := h3 1
  clear h6 h3
  go_enter Try.func21, Try.ntmps21
  go_wp2_with fail
  obtain ⟨W2, hW2⟩ : ∃ W2, (W.alloc (.cells #[.int .i64 p.1, .int .i64 p.2] 50)).alloc (.cells #[.int .i64 0, .int .i64 0] 50) = W2 := ⟨_, rfl⟩
  have hbel : Below W.heap.size W W2 := by rw [← hW2]; exact alc (alc0 _ _) _
  have hsz : W2.heap.size = W.heap.size + 2 := by rw [← hW2]; simp
  have q0 : W2.cell? ⟨W.heap.size, 0, none⟩ = some (.int .i64 p.1) := by rw [← hW2]; simp
  have q1 : W2.cell? ⟨W.heap.size, 1, none⟩ = some (.int .i64 p.2) := by rw [← hW2]; simp
  have n0 : ∀ o, o < 2 → W2.cell? ⟨W.heap.size + 1, o, none⟩ = some (.int .i64 0) := fun o ho => by
    have ho : o = 0 ∨ o = 1 := by omega
    rcases ho with rfl | rfl <;> (rw [← hW2]; simp)
  have nf : ∀ o, W2.frozen? ⟨W.heap.size + 1, o, none⟩ = false := fun o => by rw [← hW2]; simp
  have g2 : W2.heap[g]? = W.heap[g]? := hbel.block g h1
  have H5 : W2.cell? ⟨g, 1, none⟩ = some (.slice A ms.length c) := (World.cell?_of_block g2).trans h5
  have F1 : W2.frozen? ⟨g, 1, none⟩ = false := (World.frozen?_of_block g2).trans f1
  have H2 : Hid (ShB g b W2 k ms) := Lib.hid (H.out.below hbel)
  have HV : Hid (VA b W2 (.slice A ms.length c) ms) := by
    obtain ⟨_, _, _, _, v, hv, hva⟩ := H2.out
    rw [H5] at hv
    injection hv with hv
    subst hv
    exact hva
  rw [hW2]
  clear hW2 h5 f0 f1 h4 g2 H
  obtain ⟨N, hN⟩ : ∃ N, W.heap.size = N := ⟨_, rfl⟩
  have HB := Lib.hid hbel
  have h1N : g < N := by omega
  rw [hN] at q0 q1 n0 nf hsz hb0 hb1 ⊢
  have hgW : g < W2.heap.size := by omega
  have hNW : N < W2.heap.size := by omega
  have hNW1 : N + 1 < W2.heap.size := by omega
  have HSZ := Lib.hid hsz
  clear hbel h1 hsz
  go_region_law (refine step_app_vz tyArea rfl (.tmp 20) (.tmp 22) rfl b (.slice A ms.length c) ms.length (ms.flatMap enc2) (by simp [Act.eval, Act.put]) (HV.out.below (alc ((Below.refl _ W2).drew) _)) ⟨W2.heap.size, 0, none⟩ 1 1 [.int .i64 p.1, .int .i64 p.2] (by simp [Act.eval, Act.put]) rfl (new2 W2.drew p.1 p.2 _) (by simp [Value.oneCell']) (by omega) ?_; rintro v' w' ⟨b', hb', hv', hs', ho', hl'⟩ hnn; have hv2 := hv'; obtain ⟨A', c', rfl, _⟩ := hv2; have g2 : w'.heap[g]? = W2.heap[g]? := (ho' g (by simp; omega) (Ne.symm h2)).trans (Below.heap_alloc _ _ _ (by show g < W2.heap.size; omega)); have e1 := (World.cell?_of_block g2 (a := ⟨g, 1, none⟩)).trans H5; have e2 := (World.frozen?_of_block g2 (a := ⟨g, 1, none⟩)).trans F1)
  all_goals
    have k1 : w'.heap[N + 1]? = W2.heap[N + 1]? := (ho' (N + 1) (by simp; omega) (Ne.symm hb1)).trans (Below.heap_alloc _ _ _ hNW1)
    have c0 := (World.cell?_of_block k1 (a := ⟨N + 1, 0, none⟩)).trans (n0 0 (by omega))
    have c1 := (World.cell?_of_block k1 (a := ⟨N + 1, 1, none⟩)).trans (n0 1 (by omega))
    have fz : ∀ o, w'.frozen? ⟨N + 1, o, none⟩ = false := fun o => (World.frozen?_of_block k1 (a := ⟨N + 1, o, none⟩)).trans (nf o)
    have m0 := (World.cell?_of_block g2 (a := ⟨g, 0, none⟩)).trans H2.out.2.2.2.1
    have hsz9 : W2.heap.size ≤ w'.heap.size := by simp at hs'; omega
    have gb' : b' ≠ g := by
      rcases hb' with rfl | h
      · exact h2
      · simp at h; omega
    have hva : VA b' w' (.slice A' (ms.length + 1) c') (ms ++ [p]) := by
      show VZ 2 b' w' _ (ms ++ [p]).length ((ms ++ [p]).flatMap enc2)
      rw [List.flatMap_append, List.length_append]
      exact hv'
    have HPut : Hid (ShB g b' (w'.setCell ⟨g, 1, none⟩ (.slice A' (ms.length + 1) c')) k (ms ++ [p])) := Lib.hid (H2.out.put hsz9 g2 hva gb')
    have HFr : Hid (Fr g b W w') := Lib.hid ((Fr.of_below (alc (HB.out.drew) (.cells #[.int .i64 p.1, .int .i64 p.2] 50))).trans ⟨hs', fun i hi _ hb => ho' i hi hb, fun L _ hb hL => hl' L hb hL⟩ (.inl rfl))
    have hbb : b' = b ∨ W.heap.size ≤ b' := by
      rcases hb' with rfl | h
      · exact .inl rfl
      · simp at h; have := HSZ.out; exact .inr (by omega)
    have HBB := Lib.hid hbb
    have hbn : N + 1 ≠ b' := by
      rcases hb' with rfl | h
      · exact Ne.symm hb1
      · simp at h; have := HSZ.out; omega
    have hw5 : N + 1 < w'.heap.size := by have := HSZ.out; omega
    clear hb' hv' hs' ho' hl' hva hbb k1 g2
    by_cases hlk : (ms.length : Int) + 1 ≤ k
    · go_wp2_with fail
      go_quiet (fail)
      go_wp2
      refine bodyPost_ret (v := .tuple #[.agg #[.int .i64 0, .int .i64 0], .bool false]) (by simp [results, Try.results21, go_sem, c0, c1]) rfl ⟨b', HBB.out, ?_, .inl ⟨hlk, ?_, rfl⟩⟩
      · exact ((((HFr.out.set 1 _).drw _).far (by omega) 0 _).far (by omega) 1 _)
      · exact ((HPut.out.drw _).far (by omega) hbn).far (by omega) hbn
    · go_wp2_with fail
      go_quiet (fail)
      go_wp2_with fail
      refine (sfirst_any g b' k (ms ++ [p]) _ (HPut.out.drw _) (by simp; omega)).mono ?_
      rintro e w5 ⟨hf, hs5, ⟨hnil, _⟩ | ⟨q, r, hqr, rfl⟩⟩
      · simp at hnil
      · have k5 : w5.heap[N + 1]? = w'.heap[N + 1]? := (hf.2.1 (N + 1) (by show N + 1 < (w'.setCell _ _).heap.size; rw [size_set]; exact hw5) (by omega) hbn).trans (heap_other w' g 1 _ (N + 1) (by omega))
        have c2 := (World.cell?_of_block k5 (a := ⟨N + 1, 0, none⟩)).trans c0
        have c3 := (World.cell?_of_block k5 (a := ⟨N + 1, 1, none⟩)).trans c1
        have fz2 : ∀ o, w5.frozen? ⟨N + 1, o, none⟩ = false := fun o => (World.frozen?_of_block k5 (a := ⟨N + 1, o, none⟩)).trans (fz o)
        have HF5 := Lib.hid (((HFr.out.set 1 _).drw _).trans hf HBB.out)
        have HS5 := Lib.hid hs5
        clear hf hs5 k5
        go_wp2
        refine bodyPost_ret (v := .tuple #[.agg #[.int .i64 q.1, .int .i64 q.2], .bool true]) (by simp [results, Try.results21, go_sem, c2, c3]) rfl ⟨b', HBB.out, ?_, .inr ⟨by omega, ?_, q, r, hqr, rfl⟩⟩
        · exact (HF5.out.far (by omega) 0 _).far (by omega) 1 _
        · exact (HS5.out.far (by omega) hbn).far (by omega) hbn
theorem sput_any (g b : Nat) (k : Int) (ms : List Ar) (p : Ar) (W : World) (h : ShB g b W k ms) (hk : 1 ≤ k) (hk2 : k ≤ 16) (hsm : ms.length ≤ 900) :
    Calls Try.prog 21 #[.pointer (some ⟨g, 0, none⟩), .agg #[.int .i64 p.1, .int .i64 p.2]] W (PutPost g b W k ms p) := by
  by_cases hb : b < W.heap.size
  · exact sput_core g b k ms p W h hk hk2 hsm (by omega) (by omega)
  · have h0 := h
    obtain ⟨h1, h2, h3, h4, v, h5, h6⟩ := h
    rcases va_open h6 with ⟨rfl, rfl⟩ | ⟨off, c, rfl, h7, _⟩
    · refine (sput_core g (W.heap.size + 2) k [] p W (h0.renil h5 (by omega)) hk hk2 hsm (by omega) (by omega)).mono ?_
      rintro e w' ⟨b', hb', ⟨f1, f2, f3⟩, hr⟩
      refine ⟨b', .inr (by omega), ⟨f1, fun i hi hg _ => f2 i hi hg (by omega), fun L hg _ hL => f3 L hg (by omega) hL⟩, hr⟩
    · omega
end Go.Proofs.Ytjblgamngnnccaa
