/- LargePlays: putting into m. -/
import Derived.Test.YtohamecjiidjdaaLaJ
namespace Go.Proofs.Ytohamecjiidjdaa
open Go.RowKit
set_option linter.unusedVariables false
set_option linter.unusedSimpArgs false

theorem LS.put {W wn w2 : World} {g b bm b2 b' : Nat} {v6 : Value} {ms ms2 : List La} (h : LS W g b bm wn v6 ms) (hl : LgAt g b' w2 ms2) (hne : ms2 ≠ []) (hf : Fr g b2 wn w2) (hb2 : b2 = b ∨ wn.heap.size ≤ b2) (hb' : b' = b2 ∨ wn.heap.size ≤ b') :
    Below W.heap.size W w2 ∧ b' < w2.heap.size ∧ W.heap.size ≤ b' ∧ W.heap.size ≤ g ∧ V4 bm w2 v6 ms ∧ bm < w2.heap.size ∧ ∀ z, z < wn.heap.size → z ≠ g → b ≠ z → w2.heap[z]? = wn.heap[z]? := by
  obtain ⟨h1, h2, ⟨d1, d2, d3, d4, d5, d6⟩, h4, h5, h6, h7⟩ := h
  have hz := h6.size
  have hB := hf.2.2 W.heap.size d4 (by omega) hz
  have hlt : b' < w2.heap.size := by
    obtain ⟨_, _, _, v, _, hV⟩ := hl
    rcases v4_open hV with ⟨_, e9⟩ | ⟨off, c', rfl, hbb, _⟩
    · exact absurd e9 hne
    · exact hbb
  refine ⟨h6.trans hB, hlt, by omega, d4, h2.keep hf.1 (fun _ => hf.2.1 bm d3 d2 (by omega)), Nat.lt_of_lt_of_le d3 hf.1, fun z hz hg hb => hf.2.1 z hz hg (by omega)⟩
theorem vp_next2 {N b1 n : Nat} {w2 wc w' : World} {cs : List Value} {v' : Value} (hNe : w2.heap.size = N) (hB : Below N w2 wc) (hN : N ≤ b1) (h : VPost 4 b1 wc n cs v' w') : ∃ b2, Below N w2 w' ∧ N ≤ b2 ∧ VZ 4 b2 w' v' n cs ∧ wc.heap.size ≤ w'.heap.size ∧ ∀ i, i < wc.heap.size → i ≠ b1 → w'.heap[i]? = wc.heap[i]? := by
  have hw : N ≤ wc.heap.size := by have := hB.size; omega
  obtain ⟨b2, hb2, hz, hs, ho, hl⟩ := h
  exact ⟨b2, hB.trans (hl N hN hw), by omega, hz, hs, ho⟩
/-- A row of one large chunk. -/
def YR (y : Nat) (w : World) (Y : La) : Prop := y < w.heap.size ∧ ∀ j u, (enc4 Y)[j]? = some u → w.cell? ((⟨y, 0, none⟩ : Addr).add j) = some u
theorem YR.keep {y : Nat} {w w' : World} {Y : La} (h : YR y w Y) (hs : w.heap.size ≤ w'.heap.size) (hb : w'.heap[y]? = w.heap[y]?) : YR y w' Y :=
  ⟨Nat.lt_of_lt_of_le h.1 hs, fun j u hu => (World.cell?_of_block (by rw [addp]; exact hb)).trans (h.2 j u hu)⟩
theorem YR.below {y : Nat} {w w' : World} {Y : La} (h : YR y w Y) (hb : Below w.heap.size w w') : YR y w' Y := h.keep hb.size (hb.block y h.1)
theorem YR.new (w : World) (a f p r : Int) (T : TypeId) : YR w.heap.size (w.alloc (.cells #[.int .i64 a, .int .i64 f, .int .i64 p, .int .i64 r] T)) ⟨a, f, p, r⟩ := by
  refine ⟨by simp, fun j u hu => ?_⟩
  rw [addp]
  have h := L4.new w a f p r T
  obtain ⟨_, h0, h1, h2, h3, _⟩ := h
  unfold enc4 at hu
  match j, hu with
  | 0, hu => simp at hu; subst hu; exact h0
  | 1, hu => simp at hu; subst hu; exact h1
  | 2, hu => simp at hu; subst hu; exact h2
  | 3, hu => simp at hu; subst hu; exact h3
  | j + 4, hu => simp at hu
theorem vz_made0 (w2 : World) (E : TypeId) : VZ 4 w2.heap.size (w2.alloc (.cells #[] E)).drew (.slice (some ⟨w2.heap.size, 0, none⟩) 0 0) 0 [] :=
  (vz_made 4 w2 E).below (Below.refl _ _).drew
theorem YR.new0 (w : World) (a f p r : Int) (T : TypeId) : YR w.heap.size (w.alloc (.cells #[.int .i64 a, .int .i64 f, .int .i64 p, .int .i64 r] T)).drew ⟨a, f, p, r⟩ :=
  (YR.new w a f p r T).below (Below.refl _ _).drew
theorem alcN {N : Nat} {a b : World} (hN : a.heap.size = N) (h : Below N a b) (o : Obj) : Below N a (b.alloc o) := by subst hN; exact alc h o
theorem enc4_len1 (Y : La) : (enc4 Y).length = 1 * 4 := rfl
theorem enc4_one1 (Y : La) : ∀ u ∈ enc4 Y, u.oneCell' = true := fun u hu => enc4_one [Y] u (by simpa using hu)
theorem take_len {cs : List Value} {n k : Nat} (h : cs.length = n * 4) (hk : k ≤ n) : (cs.take (k * 4)).length = k * 4 := by rw [List.length_take, h]; omega
theorem drop_len {cs : List Value} {n k : Nat} (h : cs.length = n * 4) (hk : k ≤ n) : (cs.drop (k * 4)).length = (n - k) * 4 := by rw [List.length_drop, h]; omega
/-- m behind a put of what is not there. -/
theorem LS.ins {W wn w2 w' : World} {g b bm b2 b' bm2 n k : Nat} {v6 v' : Value} {ms : List La} {Y : La} (h : LS W g b bm wn v6 ms) (hn : ms.length = n) (hk : LBat ms Y.at_ k) (hF : fndB ms Y.at_ k = false) (hl : LgAt g b' w2 (insL ms k Y)) (hf : Fr g b2 wn w2) (hb2 : b2 = b ∨ wn.heap.size ≤ b2) (hb' : b' = b2 ∨ wn.heap.size ≤ b')
    (hY : 0 ≤ Y.pages ∧ Y.pages ≤ 7 ∧ Y.at_ % 16 = 0) (hB : Below w2.heap.size w2 w') (hN : w2.heap.size ≤ bm2) (hV : VZ 4 bm2 w' v' (k + 1 + (n - k)) ((ms.flatMap enc4).take (k * 4) ++ enc4 Y ++ (ms.flatMap enc4).drop (k * 4))) (hnn : v' ≠ .slice none 0 0) :
    (insL ms k Y).length = n + 1 ∧ LS W g b' bm2 w' v' (insL ms k Y) := by
  have hkn : k ≤ ms.length := hk.1
  have hlen : (insL ms k Y).length = n + 1 := by rw [insL_len ms k Y hkn, hn]
  obtain ⟨p1, p2, p3, p4, _, _, _⟩ := h.put hl (by intro e; rw [e] at hlen; simp at hlen) hf hb2 hb'
  have hV4 : V4 bm2 w' v' (insL ms k Y) := by
    show VZ 4 bm2 w' v' (insL ms k Y).length _
    rw [insL_flat, hlen, ← List.append_assoc]
    rw [show n + 1 = k + 1 + (n - k) by omega]
    exact hV
  refine ⟨hlen, LS.newm (ms := ms) (v6 := v6) (bm := bm) hl p4 p3 p2 p1 (h.rise.ins Y k hk hF) (fun p hp => ?_) hB hN hV4 hnn (lt_of_v4 hV4 hnn)⟩
  unfold insL at hp
  rcases List.mem_append.1 hp with h1 | h1
  · exact h.bds p (List.mem_of_mem_take h1)
  · rcases List.mem_cons.1 h1 with rfl | h1
    · exact hY
    · exact h.bds p (List.mem_of_mem_drop h1)
theorem era_flat (ms : List La) (k : Nat) : (ms.eraseIdx k).flatMap enc4 = (ms.flatMap enc4).take (k * 4) ++ (ms.flatMap enc4).drop ((k + 1) * 4) := by
  rw [List.eraseIdx_eq_take_drop_succ, List.flatMap_append, flat_take enc4 4 enc4_len, flat_drop enc4 4 enc4_len]
/-- m behind a drop of what is there. -/
theorem LS.era {W wn w2 w' : World} {g b bm bm2 n k : Nat} {v6 v' : Value} {ms : List La} (h : LS W g b bm wn v6 ms) (hn : ms.length = n) (hk : k < n) (hl : LgAt g b w2 (ms.eraseIdx k)) (hf : Fr g b wn w2) (hb : b < wn.heap.size)
    (hB : Below w2.heap.size w2 w') (hN : w2.heap.size ≤ bm2) (hV : VZ 4 bm2 w' v' (k + (n - (k + 1))) ((ms.flatMap enc4).take (k * 4) ++ (ms.flatMap enc4).drop ((k + 1) * 4))) (hnn : v' ≠ .slice none 0 0) :
    (ms.eraseIdx k).length = n - 1 ∧ LS W g b bm2 w' v' (ms.eraseIdx k) := by
  have hlen : (ms.eraseIdx k).length = n - 1 := by rw [List.length_eraseIdx, hn]; simp [hk]
  have hr := h.rise
  have hbd := h.bds
  obtain ⟨h1, h2, ⟨d1, d2, d3, d4, d5, d6⟩, h4, h5, h6, h7⟩ := h
  have hz := h6.size
  have hBl := hf.2.2 W.heap.size d4 d5 hz
  have hV4 : V4 bm2 w' v' (ms.eraseIdx k) := by
    show VZ 4 bm2 w' v' (ms.eraseIdx k).length _
    rw [era_flat, hlen, show n - 1 = k + (n - (k + 1)) by omega]
    exact hV
  exact ⟨hlen, LS.newm (ms := ms) (v6 := v6) (bm := bm) hl d4 d5 (Nat.lt_of_lt_of_le hb hf.1) (h6.trans hBl) (hr.era k) (fun p hp => hbd p (List.mem_of_mem_eraseIdx hp)) hB hN hV4 hnn (lt_of_v4 hV4 hnn)⟩
end Go.Proofs.Ytohamecjiidjdaa
