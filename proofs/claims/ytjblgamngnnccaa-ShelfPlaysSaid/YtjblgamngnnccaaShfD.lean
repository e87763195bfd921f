/- Contracts of package shelf: Delete, drop, First, Put. -/
import Derived.Test.YtjblgamngnnccaaShf
import Derived.Deep.RegionLaw
import Derived.RegionTactic
import Derived.ChangeAlike
import Derived.BigRegion
namespace Go.Proofs.Ytjblgamngnnccaa
open Go.RowKit
set_option linter.unusedVariables false
set_option linter.unusedSimpArgs false

theorem run_clear_any (w : World) (t e ty : TypeId) (z : Value) (ht : Try.prog.underlying t = some (.slice e)) (hv : ∀ w, (zeroValue e).run Try.prog w = .ok z w) (b o n c : Nat) (zs : List Value) (hzs : (Builtin.zeroCells z.cells n).toList = zs) (h1 : ∀ u ∈ zs, u.oneCell' = true) (hn : 0 < n)
    (hc : ∀ j, j < zs.length → (w.cell? ⟨b, o + j, none⟩).isSome = true) (hf : ∀ j, j < zs.length → w.frozen? ⟨b, o + j, none⟩ = false) :
    (Builtin.clear_ #[t] ty #[.slice (some ⟨b, o, none⟩) n c]).run Try.prog w = .ok (.tuple #[]) (w.setCells b o zs) := by
  have hst := run_storeCells_cells (P := Try.prog) b o zs 0 w (by simpa using hc) (by simpa using hf) h1
  simp only [Nat.add_zero] at hst
  obtain ⟨m, rfl⟩ : ∃ m, n = m + 1 := ⟨n - 1, by omega⟩
  simp [Builtin.clear_, run_underlying ht, hv, hzs, hst]
theorem setCells_other (b : Nat) (vs : List Value) (o : Nat) (w : World) (i : Nat) (h : i ≠ b) : (w.setCells b o vs).heap[i]? = w.heap[i]? := by
  induction vs generalizing o w with
  | nil => rfl
  | cons v r ih => rw [World.setCells, ih, heap_other _ _ _ _ _ h]
/-- Only block b changed, and not in its size. -/
def Fb (b : Nat) (W w' : World) : Prop := w'.heap.size = W.heap.size ∧ (∀ i, i ≠ b → w'.heap[i]? = W.heap[i]?) ∧ ∀ L, L ≤ b → L ≤ W.heap.size → Below L W w'
def DelPost (b : Nat) (W : World) (ms : List Ar) (e : Ending) (w' : World) : Prop := ∃ v, e = .returned v ∧ VA b w' v ms ∧ Fb b W w'
theorem flat_take {α : Type} (f : α → List Value) (sz : Nat) (hf : ∀ x, (f x).length = sz) (l : List α) (i : Nat) : (l.take i).flatMap f = (l.flatMap f).take (i * sz) := by
  induction l generalizing i with
  | nil => simp
  | cons p r ih =>
    cases i with
    | zero => simp
    | succ i =>
      have e : (f p).take ((i + 1) * sz) = f p := List.take_of_length_le (by rw [hf, Nat.add_mul]; omega)
      rw [List.take_succ_cons, List.flatMap_cons, List.flatMap_cons, ih, List.take_append, hf, e, show (i + 1) * sz - sz = i * sz by rw [Nat.add_mul]; omega]
theorem flat_drop {α : Type} (f : α → List Value) (sz : Nat) (hf : ∀ x, (f x).length = sz) (l : List α) (i : Nat) : (l.drop i).flatMap f = (l.flatMap f).drop (i * sz) := by
  induction l generalizing i with
  | nil => simp
  | cons p r ih =>
    cases i with
    | zero => simp
    | succ i =>
      have e : (f p).drop ((i + 1) * sz) = [] := List.drop_of_length_le (by rw [hf, Nat.add_mul]; omega)
      rw [List.drop_succ_cons, List.flatMap_cons, ih, List.drop_append, hf, e, show (i + 1) * sz - sz = i * sz by rw [Nat.add_mul]; omega, List.nil_append]
set_option maxHeartbeats 4000000 in
theorem del_area (b off c i j : Nat) (ms : List Ar) (W : World) (h : VA b W (.slice (some ⟨b, off, none⟩) ms.length c) ms) (hi : i < ms.length) (hj : j = i + 1) (hsm : ms.length ≤ 1000) :
    Calls Try.prog 44 #[.slice (some ⟨b, off, none⟩) ms.length c, .int .i64 i, .int .i64 j] W (DelPost b W (ms.eraseIdx i)) := by
  obtain ⟨i0, hi0, hz0, hz1, hz2⟩ := info_parts tyArea.inf
  obtain ⟨A0, c0, e, hcl, hnc, hcM, h1, ⟨e0, _⟩ | ⟨off', e1, hb, hc, hsp⟩⟩ := h
  · injection e with e2 e3 e4
    rw [e0] at e2; cases e2
  · injection e with e2 e3 e4
    subst e4
    rw [e1] at e2
    injection e2 with e2
    injection e2 with _ e5
    subst e5
    obtain ⟨n, hn⟩ : ∃ n, ms.length = n := ⟨_, rfl⟩
    have herase : ms.eraseIdx i = ms.take i ++ ms.drop (i + 1) := List.eraseIdx_eq_take_drop_succ _ _
    have hflat : (ms.eraseIdx i).flatMap enc2 = (ms.flatMap enc2).take (i * 2) ++ (ms.flatMap enc2).drop (j * 2) := by
      rw [hj, herase, List.flatMap_append, flat_take enc2 2 enc2_len, flat_drop enc2 2 enc2_len]
    have hlen1 : (ms.eraseIdx i).length = n - 1 := by rw [List.length_eraseIdx_of_lt hi, hn]
    have h1' : ∀ u ∈ (ms.eraseIdx i).flatMap enc2, u.oneCell' = true := enc2_one _
    simp only [hn] at hcl hnc hi hsm ⊢
    generalize hcs : ms.flatMap enc2 = cs at *
    obtain ⟨news, hnews⟩ : ∃ news, cs.drop (j * 2) = news := ⟨_, rfl⟩
    rw [hnews] at hflat
    have hnl : news.length = (n - j) * 2 := by rw [← hnews, List.length_drop, hcl]; omega
    have hnat : ∀ t u, news[t]? = some u → W.cell? ⟨b, off + (j * 2 + t), none⟩ = some u := by
      intro t u hu
      rw [← hnews, List.getElem?_drop] at hu
      exact hc _ u hu
    obtain ⟨A, hA, hsrc⟩ : ∃ A : Addr, (if c = j then some (⟨b, off, none⟩ : Addr) else some ⟨b, off + j * 2, none⟩) = some A ∧ Hid (∀ t u, news[t]? = some u → W.drew.cell? (A.add t) = some u) := by
      by_cases h : c = j
      · refine ⟨⟨b, off, none⟩, by simp [h], fun t u hu => ?_⟩
        have h0 : news.length = 0 := by rw [hnl]; omega
        rw [List.length_eq_zero_iff.1 h0] at hu
        simp at hu
      · refine ⟨⟨b, off + j * 2, none⟩, by simp [h], fun t u hu => ?_⟩
        rw [addp, Nat.add_assoc]
        exact hnat t u hu
    have s1 : Hid (news.length = (n - j) * 2) := hnl
    have s2 : Hid (∀ u ∈ news, u.oneCell' = true) := fun u hu => h1 u (by rw [← hnews] at hu; exact List.mem_of_mem_drop hu)
    have s3 : Hid (∀ t, t < news.length → (W.drew.cell? ⟨b, off + i * 2 + t, none⟩).isSome = true ∧ W.drew.frozen? ⟨b, off + i * 2 + t, none⟩ = false) := by
      intro t ht
      rw [Nat.add_assoc]
      exact hsp (i * 2 + t) (by rw [hnl] at ht; omega)
    obtain ⟨W1, hW1⟩ : ∃ W1, W1 = W.drew.setCells b (off + i * 2) news := ⟨_, rfl⟩
    have hsp1 : ∀ k, k < c * 2 → (W1.cell? ⟨b, off + k, none⟩).isSome = true ∧ W1.frozen? ⟨b, off + k, none⟩ = false := fun k hk => by
      rw [hW1]
      exact ⟨World.isSome_setCells b _ _ _ _ (hsp k hk).1, by rw [World.frozen?_setCells]; exact (hsp k hk).2⟩
    have hcl2 : ∀ ty, (Builtin.clear_ #[47] ty #[.slice (some ⟨b, off + (i + (n - j)) * 2, none⟩) (n - (i + (n - j))) (c - (i + (n - j)))]).run Try.prog W1 = .ok (.tuple #[]) (W1.setCells b (off + (i + (n - j)) * 2) [.int .i64 0, .int .i64 0]) := fun ty => by
      have e : n - (i + (n - j)) = 1 := by omega
      rw [e]
      refine run_clear_any W1 _ _ ty _ Try.underlying47 Try.zeroValue50 b _ 1 _ _ (by kernel_rfl) (by simp [Value.oneCell']) (by decide) (fun j hj' => ?_) (fun j hj' => ?_)
      · rw [Nat.add_assoc]; exact (hsp1 _ (by simp at hj'; omega)).1
      · rw [Nat.add_assoc]; exact (hsp1 _ (by simp at hj'; omega)).2
    have hic : i ≤ c := by omega
    have hjc : j ≤ c := by omega
    have hij : i ≤ j := by omega
    have hjn : j ≤ n := by omega
    have hne : ¬ i = j := by omega
    have X : Hid (W1 = W.drew.setCells b (off + i * 2) news) := hW1
    have HF : Hid (DelPost b W (ms.eraseIdx i) (.returned (.slice (some ⟨b, off, none⟩) (i + (n - j)) c)) (W1.setCells b (off + (i + (n - j)) * 2) [.int .i64 0, .int .i64 0])) := by
      have hlast : i + (n - j) = n - 1 := by omega
      rw [hlast]
      have hsz : (W1.setCells b (off + (n - 1) * 2) [.int .i64 0, .int .i64 0]).heap.size = W.heap.size := by rw [setCells_size, hW1, setCells_size]; rfl
      refine ⟨_, rfl, ?vz, hsz, fun k hk => ?_, fun L hL hL2 => ?_⟩
      case vz =>
        show VZ 2 b _ _ (ms.eraseIdx i).length _
        rw [hlen1]
        refine ⟨_, c, rfl, ?_, ?_, hcM, h1', .inr ⟨off, rfl, ?_, ?_, fun k hk => ?_⟩⟩
        · rw [hflat, List.length_append, List.length_take, hnl, hcl]; omega
        · omega
        · rw [hsz]; exact hb
        · intro k u hu
          have hk : k < (n - 1) * 2 := by
            have := (List.getElem?_eq_some_iff.1 hu).1
            rw [hflat, List.length_append, List.length_take, hnl, hcl] at this; omega
          rw [World.cell?_setCells_out b _ _ W1 ⟨b, off + k, none⟩ (fun _ _ => by simp; omega), hW1]
          rw [hflat] at hu
          by_cases hlt : k < i * 2
          · rw [World.cell?_setCells_out b _ _ _ ⟨b, off + k, none⟩ (fun _ _ => by simp; omega)]
            rw [List.getElem?_append_left (by rw [List.length_take, hcl]; omega), List.getElem?_take_of_lt hlt] at hu
            exact hc k u hu
          · have htl : (cs.take (i * 2)).length = i * 2 := by rw [List.length_take, hcl]; omega
            rw [List.getElem?_append_right (by rw [htl]; omega), htl] at hu
            have hj' := (List.getElem?_eq_some_iff.1 hu).1
            have := World.cell?_setCells_in b news (off + i * 2) W.drew (fun t ht => (s3.out t ht).1) (k - i * 2) hj'
            rw [show off + k = off + i * 2 + (k - i * 2) by omega, this]
            simpa [List.getElem?_eq_getElem hj'] using hu
        · exact ⟨World.isSome_setCells b _ _ _ _ (hsp1 k hk).1, by rw [World.frozen?_setCells]; exact (hsp1 k hk).2⟩
      · rw [setCells_other _ _ _ _ _ hk, hW1, setCells_other _ _ _ _ _ hk]; rfl
      · rw [hW1]
        exact setCells_below L b hL _ _ W _ (setCells_below L b hL _ _ W _ ((Below.refl L W).drew))
    have HJ := Lib.hid hj
    have hj2 : n - (i + (n - j)) = 1 := by omega
    have HJ2 := Lib.hid hj2
    clear hj hj2
    clear hW1 hsp1 hsp hc hnat hnl hflat herase hlen1 h1' h1 hcl hnews hcs
    go_enter Try.func44, Try.ntmps44
    go_wp2_with fail
    go_region_law (refine step_append_room rfl (.tmp 22) (.tmp 25) 47 rfl 50 i0 2 Try.underlying47 hi0 hz1 b off i c (by simp [Act.eval, Act.put]) A (n - j) (c - j) news (by simp [Act.eval, Act.put]) s1.out hsrc.out s2.out (by omega) s3.out ?_; rw [← X.out])
    go_wp2
    go_ret
    exact HF.out
theorem Fb.fr {g b : Nat} {W w' : World} (h : Fb b W w') : Fr g b W w' := ⟨by rw [h.1]; exact Nat.le_refl _, fun i _ _ hb => h.2.1 i hb, fun L _ hb hL => h.2.2 L hb hL⟩
theorem Fr.far {g b x : Nat} {W w1 : World} (h : Fr g b W w1) (hx : W.heap.size ≤ x) (o : Nat) (v : Value) : Fr g b W (w1.setCell ⟨x, o, none⟩ v) :=
  ⟨by rw [size_set]; exact h.1, fun i hi hg hb => by rw [heap_other _ x o v i (by omega)]; exact h.2.1 i hi hg hb, fun L hg hb hL => (h.2.2 L hg hb hL).setCell (Nat.le_trans hL hx) _⟩
theorem ShB.far {g b x o : Nat} {W : World} {k : Int} {ms : List Ar} {v : Value} (h : ShB g b W k ms) (hg : x ≠ g) (hb : x ≠ b) : ShB g b (W.setCell ⟨x, o, none⟩ v) k ms :=
  h.keep (by rw [size_set]; exact Nat.le_refl _) (heap_other W x o v g (Ne.symm hg)) (fun _ => heap_other W x o v b (Ne.symm hb))
/-- The list of a shelf is stored. -/
theorem ShB.put {g b b' : Nat} {W w2 : World} {k : Int} {ms ms' : List Ar} {v : Value} (h : ShB g b W k ms) (hs : W.heap.size ≤ w2.heap.size) (hg : w2.heap[g]? = W.heap[g]?) (hv : VA b' w2 v ms') (hb : b' ≠ g) : ShB g b' (w2.setCell ⟨g, 1, none⟩ v) k ms' := by
  obtain ⟨h1, h2, h3, h4, v0, h5, h6⟩ := h
  have e0 := (World.cell?_of_block hg (a := ⟨g, 0, none⟩)).trans h4
  have e1 := (World.cell?_of_block hg (a := ⟨g, 1, none⟩)).trans h5
  refine ⟨by rw [size_set]; omega, hb, fun o => ?_, ?_, v, World.cell?_setCell_same _ _ _ e1, hv.far hb⟩
  · have := (World.frozen?_of_block hg (a := ⟨g, o, none⟩)).trans (h3 o)
    simpa using this
  · rw [World.cell?_setCell_other _ _ _ _ (by intro x; injection x with _ x; omega), e0]
def DropPost (g b : Nat) (W : World) (k : Int) (p : Ar) (ms : List Ar) (e : Ending) (w' : World) : Prop :=
  e = .returned (.agg #[.int .i64 p.1, .int .i64 p.2]) ∧ ShB g b w' k ms ∧ Fr g b W w'
theorem sdrop_any (g b i : Nat) (k : Int) (ms : List Ar) (p : Ar) (W : World) (h : ShB g b W k ms) (hi : ms[i]? = some p) (hsm : ms.length ≤ 1000) :
    Calls Try.prog 37 #[.pointer (some ⟨g, 0, none⟩), .int .i64 i] W (DropPost g b W k p (ms.eraseIdx i)) := by
  have H := Lib.hid h
  obtain ⟨h1, h2, h3, h4, v, h5, h6⟩ := h
  have hil : i < ms.length := (List.getElem?_eq_some_iff.1 hi).1
  rcases va_open h6 with ⟨_, rfl⟩ | ⟨off, c, rfl, h7, h8, h9, h10⟩
  · simp at hil
  · obtain ⟨q1, q2⟩ := h10 i p hi
    have HV := Lib.hid h6
    clear h10 h6
    go_enter Try.func37, Try.ntmps37
    go_wp2_with fail
    obtain ⟨W2, hW2⟩ : ∃ W2, (W.alloc (.cells #[.int .i64 0, .int .i64 0] 50)).alloc (.cells #[.int .i64 p.1, .int .i64 p.2] 50) = W2 := ⟨_, rfl⟩
    have hbel : Below W.heap.size W W2 := by rw [← hW2]; exact alc (alc0 _ _) _
    have hsz : W2.heap.size = W.heap.size + 2 := by rw [← hW2]; simp
    have n0 : ∀ o, o < 2 → W2.cell? ⟨W.heap.size, o, none⟩ = some (.int .i64 0) := fun o ho => by
      have ho : o = 0 ∨ o = 1 := by omega
      rcases ho with rfl | rfl <;> (rw [← hW2]; simp)
    have nf : ∀ o, W2.frozen? ⟨W.heap.size, o, none⟩ = false := fun o => by rw [← hW2]; simp
    have r0 : W2.cell? ⟨W.heap.size + 1, 0, none⟩ = some (.int .i64 p.1) := by rw [← hW2]; simp
    have r1 : W2.cell? ⟨W.heap.size + 1, 1, none⟩ = some (.int .i64 p.2) := by rw [← hW2]; simp
    rw [hW2]
    clear hW2
    obtain ⟨N, hN⟩ : ∃ N, W.heap.size = N := ⟨_, rfl⟩
    rw [hN] at n0 nf r0 r1 hsz ⊢
    refine (del_area b off c i (i + 1) ms W2 (HV.out.below hbel) hil rfl hsm).mono ?_
    rintro e w2 ⟨v', rfl, hv, hfb⟩
    have hv2 := hv
    obtain ⟨A', c', rfl, _⟩ := hv2
    have hs2 : w2.heap.size = N + 2 := hfb.1.trans hsz
    have bN : b < N := by omega
    have gN : g < N := by omega
    have g2 : w2.heap[g]? = W.heap[g]? := (hfb.2.1 g (Ne.symm h2)).trans (hbel.block g h1)
    have e1 : w2.cell? ⟨g, 1, none⟩ = some (.slice (some ⟨b, off, none⟩) ms.length c) := (World.cell?_of_block g2).trans h5
    have e2 : w2.frozen? ⟨g, 1, none⟩ = false := (World.frozen?_of_block g2).trans (h3 1)
    have k0 : w2.heap[N]? = W2.heap[N]? := hfb.2.1 N (by omega)
    have k1 : w2.heap[N + 1]? = W2.heap[N + 1]? := hfb.2.1 (N + 1) (by omega)
    have c0 := (World.cell?_of_block k0 (a := ⟨N, 0, none⟩)).trans (n0 0 (by omega))
    have c1 := (World.cell?_of_block k0 (a := ⟨N, 1, none⟩)).trans (n0 1 (by omega))
    have f0 := (World.frozen?_of_block k0 (a := ⟨N, 0, none⟩)).trans (nf 0)
    have f1 := (World.frozen?_of_block k0 (a := ⟨N, 1, none⟩)).trans (nf 1)
    have d0 := (World.cell?_of_block k1 (a := ⟨N + 1, 0, none⟩)).trans r0
    have d1 := (World.cell?_of_block k1 (a := ⟨N + 1, 1, none⟩)).trans r1
    have gNe : ¬ g = N := by omega
    have gNe1 : ¬ g = N + 1 := by omega
    have HFr : Hid (Fr g b W w2) := Lib.hid ((Fr.of_below hbel).trans hfb.fr (.inl rfl))
    have HPut : Hid (ShB g b (w2.setCell ⟨g, 1, none⟩ (.slice A' (ms.eraseIdx i).length c')) k (ms.eraseIdx i)) := Lib.hid (H.out.put (by omega) g2 hv h2)
    clear hbel hsz n0 nf r0 r1 hv hfb g2 k0 k1 h3 h4 h5 q1 q2 HV H
    go_wp2
    refine bodyPost_ret (v := .agg #[.int .i64 p.1, .int .i64 p.2]) (by simp [results, Try.results37, go_sem, c0, c1, gNe]) rfl ⟨rfl, ?_, ?_⟩
    · exact (HPut.out.far (by omega) (by omega)).far (by omega) (by omega)
    · exact ((HFr.out.set 1 _).far (by omega) 0 _).far (by omega) 1 _
theorem ShB.blt {g b : Nat} {W : World} {k : Int} {ms : List Ar} (h : ShB g b W k ms) (hm : 0 < ms.length) : b < W.heap.size := by
  obtain ⟨h1, h2, h3, h4, v, h5, h6⟩ := h
  rcases va_open h6 with ⟨_, rfl⟩ | ⟨off, c, rfl, h7, _⟩
  · simp at hm
  · exact h7
/-- What First tells: the first area, and that there is one. -/
def FirstPost (g b : Nat) (W : World) (k : Int) (ms : List Ar) (e : Ending) (w' : World) : Prop :=
  Fr g b W w' ∧ ShB g b w' k ms.tail ∧ ((ms = [] ∧ e = .returned (.tuple #[.agg #[.int .i64 0, .int .i64 0], .bool false])) ∨ ∃ p r, ms = p :: r ∧ e = .returned (.tuple #[.agg #[.int .i64 p.1, .int .i64 p.2], .bool true]))
theorem sfirst_any (g b : Nat) (k : Int) (ms : List Ar) (W : World) (h : ShB g b W k ms) (hsm : ms.length ≤ 1000) :
    Calls Try.prog 20 #[.pointer (some ⟨g, 0, none⟩)] W (FirstPost g b W k ms) := by
  have H := Lib.hid h
  have h1 : g < W.heap.size := h.1
  clear h
  have hbel := alc0 W (.cells #[.int .i64 0, .int .i64 0] 50)
  cases ms with
  | nil =>
    go_enter Try.func20, Try.ntmps20
    go_wp2_with fail
    refine (slen_any g b k [] _ (H.out.below hbel)).mono ?_
    rintro e w2 ⟨rfl, rfl⟩
    go_wp2
    refine bodyPost_ret (v := .tuple #[.agg #[.int .i64 0, .int .i64 0], .bool false]) (by simp [results, Try.results20, go_sem]) rfl ⟨Fr.of_below (alc0 _ _), H.out.below (alc0 _ _), .inl ⟨rfl, rfl⟩⟩
  | cons p r =>
    have hlen : ((p :: r).length : Int) = (r.length : Int) + 1 := by simp
    have hl0 : ¬ (r.length : Int) + 1 = 0 := by omega
    go_enter Try.func20, Try.ntmps20
    go_wp2_with fail
    refine (slen_any g b k (p :: r) _ (H.out.below hbel)).mono ?_
    rintro e w2 ⟨rfl, rfl⟩
    rw [hlen]
    go_wp2_with fail
    have hN : W.heap.size = W.heap.size := rfl
    refine (sdrop_any g b 0 k (p :: r) p _ (H.out.below hbel) rfl hsm).mono ?_
    rintro e w2 ⟨rfl, hs, hf⟩
    have HS := Lib.hid hs
    have hsz := hf.1
    simp at hsz
    obtain ⟨N, hN⟩ : ∃ N, W.heap.size = N := ⟨_, rfl⟩
    have gNe : ¬ g = N := by omega
    by_cases hbN : b = N
    · have := H.out.blt (by simp)
      omega
    · have k0 : w2.heap[N]? = (W.alloc (.cells #[.int .i64 0, .int .i64 0] 50)).heap[N]? := hf.2.1 N (by simp; omega) (by omega) (Ne.symm hbN)
      have c0 : w2.cell? ⟨N, 0, none⟩ = some (.int .i64 0) := (World.cell?_of_block k0).trans (by rw [← hN]; simp)
      have c1 : w2.cell? ⟨N, 1, none⟩ = some (.int .i64 0) := (World.cell?_of_block k0).trans (by rw [← hN]; simp)
      have f0 : ∀ o, w2.frozen? ⟨N, o, none⟩ = false := fun o => (World.frozen?_of_block k0).trans (by rw [← hN]; simp)
      have HF := Lib.hid ((Fr.of_below hbel).trans hf (.inl rfl))
      rw [hN]
      clear hf k0 hs hbel H
      go_wp2
      refine bodyPost_ret (v := .tuple #[.agg #[.int .i64 p.1, .int .i64 p.2], .bool true]) (by simp [results, Try.results20, go_sem, c0, c1]) rfl ⟨(HF.out.far (by omega) 0 _).far (by omega) 1 _, (HS.out.far (by omega) (by omega)).far (by omega) (by omega), .inr ⟨p, r, rfl, rfl⟩⟩
end Go.Proofs.Ytjblgamngnnccaa
