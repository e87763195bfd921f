/- Contracts of package quar: Put where it goes in. -/
import Derived.Test.YtohamecjiidjdaaQuP
import Derived.Test.YtohamecjiidjdaaFrm
import Derived.Deep.RegionLaw
import Derived.RegionTactic
import Derived.ChangeAlike
import Derived.BigRegion
import Derived.Deep.DeepCutAuto
namespace Go.Proofs.Ytohamecjiidjdaa
open Go.RowKit
set_option linter.unusedVariables false
set_option linter.unusedSimpArgs false

theorem QuB.far {g b x o : Nat} {W : World} {ms : List It} {v : Value} (h : QuB g b W ms) (hg : x ≠ g) (hb : x ≠ b) : QuB g b (W.setCell ⟨x, o, none⟩ v) ms :=
  h.keep (by rw [size_set]; exact Nat.le_refl _) (heap_other W x o v g (Ne.symm hg)) (fun _ => heap_other W x o v b (Ne.symm hb))
theorem QuB.drw {g b : Nat} {W : World} {ms : List It} (h : QuB g b W ms) (n : Nat) : QuB g b (W.drewN n) ms := h.keep (Nat.le_refl _) rfl (fun _ => rfl)
theorem QuB.put {g b b' : Nat} {W w2 : World} {ms ms' : List It} {v : Value} (h : QuB g b W ms) (hs : W.heap.size ≤ w2.heap.size) (hg : w2.heap[g]? = W.heap[g]?) (hv : VI b' w2 v ms') (hb : b' ≠ g) : QuB g b' (w2.setCell ⟨g, 0, none⟩ v) ms' := by
  obtain ⟨h1, h2, h3, v0, h5, h6⟩ := h
  have e1 := (World.cell?_of_block hg (a := ⟨g, 0, none⟩)).trans h5
  refine ⟨by rw [size_set]; omega, hb, fun o => ?_, v, World.cell?_setCell_same _ _ _ e1, hv.far hb⟩
  have := (World.frozen?_of_block hg (a := ⟨g, o, none⟩)).trans (h3 o)
  simpa using this
theorem QuB.renil {g b b' : Nat} {W : World} (h : QuB g b W []) (hv : W.cell? ⟨g, 0, none⟩ = some (.slice none 0 0)) (hb : b' ≠ g) : QuB g b' W [] := by
  obtain ⟨h1, h2, h3, v, h5, h6⟩ := h
  exact ⟨h1, hb, h3, _, hv, vz_nil _ _ _⟩
theorem QuB.free {g b : Nat} {W : World} {ms : List It} (h : QuB g b W ms) : b < W.heap.size ∨ (ms = [] ∧ ∀ b', b' ≠ g → QuB g b' W []) := by
  have h0 := h
  obtain ⟨h1, h2, h3, v, h5, h6⟩ := h
  rcases vi_open h6 with ⟨rfl, rfl⟩ | ⟨off, c, rfl, h7, _⟩
  · exact .inr ⟨rfl, fun b' hb => h0.renil h5 hb⟩
  · exact .inl h7
theorem new5 (W : World) (a0 a1 a2 a3 a4 : Int) (E : TypeId) : ∀ j u, ([.int .i64 a0, .int .i64 a1, .int .i64 a2, .int .i64 a3, .int .i64 a4] : List Value)[j]? = some u → (W.alloc (.cells #[.int .i64 a0, .int .i64 a1, .int .i64 a2, .int .i64 a3, .int .i64 a4] E)).cell? ((⟨W.heap.size, 0, none⟩ : Addr).add j) = some u := by
  intro j u hu
  rw [addp]
  match j with
  | 0 => simp at hu; subst hu; simp
  | 1 => simp at hu; subst hu; simp
  | 2 => simp at hu; subst hu; simp
  | 3 => simp at hu; subst hu; simp
  | 4 => simp at hu; subst hu; simp
  | j + 5 => simp at hu
def PutQ (g b : Nat) (W : World) (ms : List It) (p : It) (e : Ending) (w' : World) : Prop :=
  e = .returned (.bool true) ∧ ∃ b', (b' = b ∨ W.heap.size ≤ b') ∧ Fr g b W w' ∧ QuB g b' w' (ms ++ [p])
set_option maxHeartbeats 1600000 in
theorem qput_core (g b : Nat) (ms : List It) (p : It) (W : World) (h : QuB g b W ms) (hle : ms = [] ∨ ∃ l q, ms = l ++ [q] ∧ q.ep ≤ p.ep) (hsm : ms.length ≤ 100) (hb0 : b ≠ W.heap.size) :
    Calls Try.prog 10 #[.pointer (some ⟨g, 0, none⟩), .agg #[.int .i64 p.at_, .int .i64 p.room, .int .i64 p.cls, .int .i64 p.thr, .int .i64 p.ep]] W (PutQ g b W ms p) := by
  have H := Lib.hid h
  obtain ⟨h1, h2, h3, v, h5, h6⟩ := h
  have hsh := h6
  obtain ⟨A, c, rfl, _⟩ := hsh
  have hway : (ms.length = 0) ∨ ∃ (l : List It) (q : It) (off : Nat), ms.length = l.length + 1 ∧ A = some ⟨b, off, none⟩ ∧ b < W.heap.size ∧ W.cell? ⟨b, off + l.length * 5 + 4, none⟩ = some (.int .i64 q.ep) ∧ decide (p.ep < q.ep) = false := by
    rcases hle with rfl | ⟨l, q, rfl, hq⟩
    · exact .inl rfl
    · rcases vi_open h6 with ⟨_, e⟩ | ⟨off, c', e, h7, h8, h9, h10⟩
      · simp at e
      · injection e with e1 e2 e3
        obtain ⟨_, _, _, _, z4⟩ := h10 l.length q (by simp)
        exact .inr ⟨l, q, off, by simp, e1, h7, z4, decide_eq_false (by omega)⟩
  have hnc : ms.length ≤ c := by obtain ⟨_, _, e, _, hh, _⟩ := h6; injection e with _ _ e3; omega
  have HSM := Lib.hid hsm
  have f0 := h3 0
  clear h6 h3 hle
  go_enter Try.func10, Try.ntmps10
  go_upto_region 1 with (fail)
  go_cut [32] (fun v32 wx => v32 = .bool false ∧ ∃ q, Hid (wx = (W.alloc (.cells #[.int .i64 p.at_, .int .i64 p.room, .int .i64 p.cls, .int .i64 p.thr, .int .i64 p.ep] 33)).drewN q))
  case first =>
    rcases hway with h0 | ⟨l, q, off, hl, rfl, hbl, z4, hd⟩
    · rw [h0] at h5
      go_wp2_with fail
      go_quiet (fail)
      go_wp2_with fail
      go_meet
      exact ⟨rfl, _, Lib.hid rfl⟩
    · rw [hl] at h5 hnc
      have d1 : decide ((0 : Int) < (l.length : Int) + 1) = true := decide_eq_true (by omega)
      have i1 : (l.length : Int) < (l.length : Int) + 1 := by omega
      go_wp2_with fail
      go_quiet (fail)
      go_wp2_with fail
      go_meet
      exact ⟨rfl, _, Lib.hid rfl⟩
  case rest =>
    obtain ⟨rfl, nq, HX⟩ := hcut
    obtain ⟨N, hN⟩ : ∃ N, W.heap.size = N := ⟨_, rfl⟩
    have hbel : Below W.heap.size W wc := by rw [HX.out]; exact below_drewN (alc0 _ _) _
    have hsz : wc.heap.size = N + 1 := by rw [HX.out, ← hN]; simp
    have q0 : wc.cell? ⟨N, 0, none⟩ = some (.int .i64 p.at_) := by rw [HX.out, ← hN]; simp
    have q1 : wc.cell? ⟨N, 1, none⟩ = some (.int .i64 p.room) := by rw [HX.out, ← hN]; simp
    have q2 : wc.cell? ⟨N, 2, none⟩ = some (.int .i64 p.cls) := by rw [HX.out, ← hN]; simp
    have q3 : wc.cell? ⟨N, 3, none⟩ = some (.int .i64 p.thr) := by rw [HX.out, ← hN]; simp
    have q4 : wc.cell? ⟨N, 4, none⟩ = some (.int .i64 p.ep) := by rw [HX.out, ← hN]; simp
    have g2 : wc.heap[g]? = W.heap[g]? := hbel.block g h1
    have H5 : wc.cell? ⟨g, 0, none⟩ = some (.slice A ms.length c) := (World.cell?_of_block g2).trans h5
    have F1 : wc.frozen? ⟨g, 0, none⟩ = false := (World.frozen?_of_block g2).trans f0
    have H2 : Hid (QuB g b wc ms) := Lib.hid (H.out.below hbel)
    have HV : Hid (VI b wc (.slice A ms.length c) ms) := by
      obtain ⟨_, _, _, v, hv, hva⟩ := H2.out
      rw [H5] at hv
      injection hv with hv
      subst hv
      exact hva
    have HB := Lib.hid hbel
    have HSZ := Lib.hid hsz
    have hgW : g < wc.heap.size := by omega
    have hNW : N < wc.heap.size := by omega
    rw [hN] at hb0 ⊢
    clear hbel hsz g2 h5 f0 H hway HX
    go_wp2_with fail
    go_region_law (refine step_app_vz tyItem rfl (.tmp 37) (.tmp 39) rfl b (.slice A ms.length c) ms.length (ms.flatMap enc5) (by simp [Act.eval, Act.put]) (HV.out.below (alc ((Below.refl _ wc).drew) _)) ⟨wc.heap.size, 0, none⟩ 1 1 [.int .i64 p.at_, .int .i64 p.room, .int .i64 p.cls, .int .i64 p.thr, .int .i64 p.ep] (by simp [Act.eval, Act.put]) rfl (new5 wc.drew p.at_ p.room p.cls p.thr p.ep _) (by simp [Value.oneCell']) (by have := HSM.out; omega) ?_; rintro v' w' ⟨b', hb', hv', hs', ho', hl'⟩ hnn; have hv2 := hv'; obtain ⟨A', c', rfl, _⟩ := hv2; have g2 : w'.heap[g]? = wc.heap[g]? := (ho' g (by simp; omega) (Ne.symm h2)).trans (Below.heap_alloc _ _ _ (by show g < wc.heap.size; omega)); have e1 := (World.cell?_of_block g2 (a := ⟨g, 0, none⟩)).trans H5; have e2 := (World.frozen?_of_block g2 (a := ⟨g, 0, none⟩)).trans F1)
    all_goals
      have hsz9 : wc.heap.size ≤ w'.heap.size := by simp at hs'; omega
      have gb' : b' ≠ g := by
        rcases hb' with rfl | h
        · exact h2
        · simp at h; omega
      have hva : VI b' w' (.slice A' (ms.length + 1) c') (ms ++ [p]) := by
        show VZ 5 b' w' _ (ms ++ [p]).length ((ms ++ [p]).flatMap enc5)
        rw [List.flatMap_append, List.length_append]
        exact hv'
      have HPut : Hid (QuB g b' (w'.setCell ⟨g, 0, none⟩ (.slice A' (ms.length + 1) c')) (ms ++ [p])) := Lib.hid (H2.out.put hsz9 g2 hva gb')
      have HFr : Hid (Fr g b W w') := Lib.hid ((Fr.of_below (alc (HB.out.drew) (.cells #[.int .i64 p.at_, .int .i64 p.room, .int .i64 p.cls, .int .i64 p.thr, .int .i64 p.ep] 33))).trans ⟨hs', fun i hi _ hb => ho' i hi hb, fun L _ hb hL => hl' L hb hL⟩ (.inl rfl))
      have HBB : Hid (b' = b ∨ W.heap.size ≤ b') := Lib.hid (by
        rcases hb' with rfl | h
        · exact .inl rfl
        · simp at h; have := HSZ.out; exact .inr (by omega))
      clear hb' hv' hs' ho' hl' hva g2
      go_wp2
      go_ret
      exact ⟨rfl, b', HBB.out, HFr.out.set 0 _, HPut.out⟩
theorem qput_any (g b : Nat) (ms : List It) (p : It) (W : World) (h : QuB g b W ms) (hle : ms = [] ∨ ∃ l q, ms = l ++ [q] ∧ q.ep ≤ p.ep) (hsm : ms.length ≤ 100) :
    Calls Try.prog 10 #[.pointer (some ⟨g, 0, none⟩), .agg #[.int .i64 p.at_, .int .i64 p.room, .int .i64 p.cls, .int .i64 p.thr, .int .i64 p.ep]] W (PutQ g b W ms p) := by
  rcases h.free with hb | ⟨rfl, hs⟩
  · exact qput_core g b ms p W h hle hsm (by omega)
  · have := h.1
    refine (qput_core g (W.heap.size + 2) [] p W (hs _ (by omega)) hle hsm (by omega)).mono ?_
    rintro e w' ⟨rfl, b', hb', ⟨f1, f2, f3⟩, hr⟩
    exact ⟨rfl, b', .inr (by omega), ⟨f1, fun i hi hg _ => f2 i hi hg (by omega), fun L hg _ hL => f3 L hg (by omega) hL⟩, hr⟩
end Go.Proofs.Ytohamecjiidjdaa
