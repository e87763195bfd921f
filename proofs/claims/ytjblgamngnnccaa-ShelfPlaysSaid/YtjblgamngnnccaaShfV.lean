/- What the walk of ShelfPlays keeps. -/
import Derived.Test.YtjblgamngnnccaaShfT
import Derived.Test.YtjblgamngnnccaaRecs
namespace Go.Proofs.Ytjblgamngnnccaa
open Go.RowKit
set_option linter.unusedVariables false
set_option linter.unusedSimpArgs false

theorem ShB.free {g b : Nat} {W : World} {k : Int} {ms : List Ar} (h : ShB g b W k ms) : b < W.heap.size ∨ (ms = [] ∧ ∀ b', b' ≠ g → ShB g b' W k []) := by
  have h0 := h
  obtain ⟨h1, h2, h3, h4, v, h5, h6⟩ := h
  rcases va_open h6 with ⟨rfl, rfl⟩ | ⟨off, c, rfl, h7, _⟩
  · exact .inr ⟨rfl, fun b' hb => h0.renil h5 hb⟩
  · exact .inl h7
/-- A shelf whose list is in no block from the memory's end on. -/
theorem ShB.fix {g b bm B0 : Nat} {W : World} {k : Int} {ms : List Ar} (h : ShB g b W k ms) (hbm : W.heap.size ≤ bm) (hB : B0 ≤ b) (hB2 : B0 ≤ W.heap.size) : ∃ b', b' ≠ bm ∧ B0 ≤ b' ∧ ShB g b' W k ms := by
  rcases h.free with h1 | ⟨rfl, h1⟩
  · exact ⟨b, by omega, hB, h⟩
  · by_cases e : bm + 1 = g
    · exact ⟨bm + 2, by omega, by omega, h1 _ (by omega)⟩
    · exact ⟨bm + 1, by omega, by omega, h1 _ (by omega)⟩
/-- What the loop keeps. -/
def SW (B0 g b bm : Nat) (w W : World) (k : Int) (v7 : Value) (ms : List Ar) : Prop :=
  ShB g b W k ms ∧ VA bm W v7 ms ∧ v7 ≠ .slice none 0 0 ∧ (b ≠ bm ∧ bm ≠ g) ∧ (B0 ≤ g ∧ B0 ≤ b ∧ B0 ≤ bm ∧ B0 ≤ W.heap.size) ∧ Below B0 w W ∧ (ms.length : Int) ≤ k ∧ ∀ p ∈ ms, 1 ≤ p.2 ∧ p.2 ≤ 16
theorem SW.below {B0 g b bm : Nat} {w W W' : World} {k : Int} {v7 : Value} {ms : List Ar} (h : SW B0 g b bm w W k v7 ms) (hb : Below W.heap.size W W') : SW B0 g b bm w W' k v7 ms := by
  obtain ⟨h1, h2, h3, h4, ⟨t1, t2, t3, t4⟩, h6, h7⟩ := h
  exact ⟨h1.below hb, h2.below hb, h3, h4, ⟨t1, t2, t3, by have := hb.size; omega⟩, h6.trans (hb.mono t4), h7⟩
theorem SW.drw {B0 g b bm : Nat} {w W : World} {k : Int} {v7 : Value} {ms : List Ar} (h : SW B0 g b bm w W k v7 ms) (n : Nat) : SW B0 g b bm w (W.drewN n) k v7 ms := by
  obtain ⟨h1, h2, h3, h4, h5, h6, h7⟩ := h
  exact ⟨h1.drw n, h2.keep (Nat.le_refl _) (fun _ => rfl), h3, h4, h5, below_drewN h6 n, h7⟩
/-- What m[j+1:] is. -/
theorem drop_addr (b off c j n : Nat) (cs : List Value) (hl : cs.length = n * 2) (hn : n ≤ c) (hj : j ≤ n) (W : World) (h : At W b off cs) :
    ∃ A : Addr, (if c = j then some (⟨b, off, none⟩ : Addr) else some ⟨b, off + j * 2, none⟩) = some A ∧ ∀ W' : World, W'.heap[b]? = W.heap[b]? → ∀ (t : Nat) (u : Value), (cs.drop (j * 2))[t]? = some u → W'.cell? (A.add t) = some u := by
  by_cases h' : c = j
  · refine ⟨⟨b, off, none⟩, by simp [h'], fun W' _ t u hu => ?_⟩
    have := (List.getElem?_eq_some_iff.1 hu).1
    rw [List.length_drop, hl] at this
    omega
  · refine ⟨⟨b, off + j * 2, none⟩, by simp [h'], fun W' hW t u hu => ?_⟩
    rw [addp, Nat.add_assoc]
    rw [List.getElem?_drop] at hu
    exact (World.cell?_of_block hW).trans (h _ u hu)
/-- The shelf has ms', the list that the statement keeps is ms still. -/
def SV (B0 g b bm : Nat) (w W : World) (k : Int) (v7 : Value) (ms ms' : List Ar) : Prop :=
  ShB g b W k ms' ∧ VA bm W v7 ms ∧ v7 ≠ .slice none 0 0 ∧ (b ≠ bm ∧ bm ≠ g ∧ bm < W.heap.size) ∧ (B0 ≤ g ∧ B0 ≤ b ∧ B0 ≤ bm ∧ B0 ≤ W.heap.size) ∧ Below B0 w W
theorem SW.sv {B0 g b bm : Nat} {w W : World} {k : Int} {v7 : Value} {ms : List Ar} (h : SW B0 g b bm w W k v7 ms) : SV B0 g b bm w W k v7 ms ms := by
  obtain ⟨h1, h2, h3, h4, h5, h6, h7⟩ := h
  refine ⟨h1, h2, h3, ⟨h4.1, h4.2, ?_⟩, h5, h6⟩
  rcases va_open h2 with ⟨e, _⟩ | ⟨_, _, _, h, _⟩
  · exact absurd e h3
  · exact h
theorem SV.fr {B0 g b b' bm : Nat} {w W W' : World} {k : Int} {v7 : Value} {ms ms1 ms' : List Ar} (h : SV B0 g b bm w W k v7 ms ms1) (hf : Fr g b W W') (hs : ShB g b' W' k ms') (hb : b' = b ∨ W.heap.size ≤ b') : SV B0 g b' bm w W' k v7 ms ms' := by
  obtain ⟨h1, h2, h3, ⟨d1, d2, d3⟩, ⟨t1, t2, t3, t4⟩, h6⟩ := h
  have hs' := hf.1
  refine ⟨hs, h2.keep hs' (fun _ => hf.2.1 bm d3 d2 (Ne.symm d1)), h3, ⟨?_, d2, by omega⟩, ⟨t1, ?_, t3, by omega⟩, h6.trans (hf.2.2 B0 t1 t2 t4)⟩
  · rcases hb with rfl | h <;> omega
  · rcases hb with rfl | h <;> omega
theorem SV.below {B0 g b bm : Nat} {w W W' : World} {k : Int} {v7 : Value} {ms ms' : List Ar} (h : SV B0 g b bm w W k v7 ms ms') (hb : Below W.heap.size W W') : SV B0 g b bm w W' k v7 ms ms' :=
  h.fr (Fr.of_below hb) (h.1.below hb) (.inl rfl)
theorem SV.drw {B0 g b bm : Nat} {w W : World} {k : Int} {v7 : Value} {ms ms' : List Ar} (h : SV B0 g b bm w W k v7 ms ms') (n : Nat) : SV B0 g b bm w (W.drewN n) k v7 ms ms' := by
  obtain ⟨h1, h2, h3, h4, h5, h6⟩ := h
  exact ⟨h1.drw n, h2.keep (Nat.le_refl _) (fun _ => rfl), h3, h4, h5, below_drewN h6 n⟩
theorem SV.sw {B0 g b bm : Nat} {w W : World} {k : Int} {v7 : Value} {ms : List Ar} (h : SV B0 g b bm w W k v7 ms ms) (hl : (ms.length : Int) ≤ k) (hp : ∀ p ∈ ms, 1 ≤ p.2 ∧ p.2 ≤ 16) : SW B0 g b bm w W k v7 ms := by
  obtain ⟨h1, h2, h3, h4, h5, h6⟩ := h
  exact ⟨h1, h2, h3, ⟨h4.1, h4.2.1⟩, h5, h6, hl, hp⟩
/-- The statement's list is a new one. -/
theorem SV.newm {B0 g b bm bm' : Nat} {w W W' : World} {k : Int} {v7 v7' : Value} {ms ms' ms2 : List Ar} (h : SV B0 g b bm w W k v7 ms ms') (hb : Below W.heap.size W W') (hv : VA bm' W' v7' ms2) (hn : v7' ≠ .slice none 0 0) (hbm : W.heap.size ≤ bm') : ∃ b', SV B0 g b' bm' w W' k v7' ms2 ms' := by
  obtain ⟨h1, h2, h3, ⟨d1, d2, d3⟩, ⟨t1, t2, t3, t4⟩, h6⟩ := h
  obtain ⟨b', e1, e2, hs⟩ := h1.fix hbm t2 t4
  refine ⟨b', hs.below hb, hv, hn, ⟨e1, by have := h1.1; omega, ?_⟩, ⟨t1, e2, by omega, by have := hb.size; omega⟩, h6.trans (hb.mono t4)⟩
  rcases va_open hv with ⟨e, _⟩ | ⟨_, _, _, h, _⟩
  · exact absurd e hn
  · exact h
theorem va_tail1 {bm off c : Nat} {W : World} {p : Ar} {r : List Ar} (h : VA bm W (.slice (some ⟨bm, off, none⟩) (r.length + 1) c) (p :: r)) (hc1 : c = 1) : VA bm W (.slice (some ⟨bm, off, none⟩) r.length (c - 1)) r := by
  obtain ⟨A, c', e, h1, h2, h3, h4, ⟨h5, _⟩ | ⟨off', e1, hl, hc, hsp⟩⟩ := h
  · injection e with e2; rw [h5] at e2; cases e2
  · injection e with e2 e3 e4
    subst e4
    simp at h2
    have hr : r = [] := List.length_eq_zero_iff.1 (by omega)
    subst hr
    exact ⟨_, _, rfl, by simp, by simp, by omega, by simp, .inr ⟨off, rfl, hl, fun j u hu => by simp at hu, fun i hi => by omega⟩⟩
theorem va_tail2 {bm off c : Nat} {W : World} {p : Ar} {r : List Ar} (h : VA bm W (.slice (some ⟨bm, off, none⟩) (r.length + 1) c) (p :: r)) : VA bm W (.slice (some ⟨bm, off + 2, none⟩) r.length (c - 1)) r := by
  obtain ⟨A, c', e, h1, h2, h3, h4, ⟨h5, _⟩ | ⟨off', e1, hl, hc, hsp⟩⟩ := h
  · injection e with e2; rw [h5] at e2; cases e2
  · injection e with e2 e3 e4
    subst e4
    rw [e1] at e2
    injection e2 with e2
    injection e2 with _ e5
    subst e5
    simp at h2
    refine ⟨_, _, rfl, flat_len enc2 2 enc2_len r, by omega, by omega, enc2_one r, .inr ⟨off + 2, rfl, hl, fun j u hu => ?_, fun i hi => ?_⟩⟩
    · have := hc (2 + j) u (by rw [List.flatMap_cons, List.getElem?_append_right (by rw [enc2_len]; omega), enc2_len]; simpa using hu)
      rwa [← Nat.add_assoc] at this
    · have := hsp (2 + i) (by omega)
      rwa [← Nat.add_assoc] at this
theorem SV.tail {B0 g b bm : Nat} {w W : World} {k : Int} {v7 v7' : Value} {ms ms' ms2 : List Ar} (h : SV B0 g b bm w W k v7 ms ms') (hv : VA bm W v7' ms2) (hn : v7' ≠ .slice none 0 0) : SV B0 g b bm w W k v7' ms2 ms' := by
  obtain ⟨h1, h2, h3, h4, h5, h6⟩ := h
  exact ⟨h1, hv, hn, h4, h5, h6⟩
theorem SW.fixX {B0 g b bm : Nat} {w W : World} {k : Int} {v7 : Value} {ms : List Ar} (h : SW B0 g b bm w W k v7 ms) : ∃ b', b' ≠ W.heap.size ∧ SW B0 g b' bm w W k v7 ms := by
  have hd := h.sv.2.2.2.1.2.2
  obtain ⟨h1, h2, h3, h4, ⟨t1, t2, t3, t4⟩, h6, h7⟩ := h
  rcases h1.free with hb | ⟨rfl, hs⟩
  · exact ⟨b, by omega, h1, h2, h3, h4, ⟨t1, t2, t3, t4⟩, h6, h7⟩
  · by_cases e : W.heap.size + 1 = g
    · exact ⟨W.heap.size + 2, by omega, hs _ (by omega), h2, h3, ⟨by omega, h4.2⟩, ⟨t1, by omega, t3, t4⟩, h6, h7⟩
    · exact ⟨W.heap.size + 1, by omega, hs _ (by omega), h2, h3, ⟨by omega, h4.2⟩, ⟨t1, by omega, t3, t4⟩, h6, h7⟩
theorem sput_all (g b : Nat) (k : Int) (ms : List Ar) (p : Ar) (W : World) (h : ShB g b W k ms) (hk : 0 ≤ k) (hk2 : k ≤ 16) (hsm : (ms.length : Int) ≤ k) :
    Calls Try.prog 21 #[.pointer (some ⟨g, 0, none⟩), .agg #[.int .i64 p.1, .int .i64 p.2]] W (PutPost g b W k ms p) := by
  by_cases h0 : k = 0
  · subst h0
    obtain rfl : ms = [] := List.length_eq_zero_iff.1 (by omega)
    refine (sput0 g b p.1 p.2 [] W h).mono ?_
    rintro e w' ⟨rfl, hb⟩
    exact ⟨b, .inl rfl, Fr.of_below hb, .inr ⟨by simp, h.below hb, p, [], rfl, rfl⟩⟩
  · exact sput_any g b k ms p W h (by omega) hk2 (by omega)
theorem SV.tailw2 {B0 g b bm off c L : Nat} {w W : World} {k : Int} {p : Ar} {r : List Ar} (h : SV B0 g b bm w W k (.slice (some ⟨bm, off, none⟩) L c) (p :: r) r) (hL : r.length + 1 = L) (hk : (r.length : Int) ≤ k) (hp : ∀ p ∈ r, 1 ≤ p.2 ∧ p.2 ≤ 16) (q : Nat) : SW B0 g b bm w (W.drewN q) k (.slice (some ⟨bm, off + 2, none⟩) (L - 1) (c - 1)) r := by
  subst hL
  have h1 := h.tail (va_tail2 h.2.1) (by simp)
  exact (h1.drw q).sw hk hp
theorem SV.tailw1 {B0 g b bm off c L : Nat} {w W : World} {k : Int} {p : Ar} {r : List Ar} (h : SV B0 g b bm w W k (.slice (some ⟨bm, off, none⟩) L c) (p :: r) r) (hL : r.length + 1 = L) (hk : (r.length : Int) ≤ k) (hp : ∀ p ∈ r, 1 ≤ p.2 ∧ p.2 ≤ 16) (hc : c = 1) (q : Nat) : SW B0 g b bm w (W.drewN q) k (.slice (some ⟨bm, off, none⟩) (L - 1) 0) r := by
  subst hL
  have h0 := va_tail1 h.2.1 hc
  rw [hc] at h0
  have h1 := h.tail h0 (by simp)
  exact (h1.drw q).sw hk hp
def bestZ (n : Int) (ms : List Ar) (j : Nat) : Int := if 1 ≤ n then best n ms j else -1
end Go.Proofs.Ytjblgamngnnccaa
