/- Without: what stands between its rounds. -/
import Derived.Test.YtokdjonnblbegaaBaJ
namespace Go.Proofs.Ytokdjonnblbegaa
set_option maxRecDepth 100000
open Go.RowKit Go.Maps
set_option linter.unusedVariables false
set_option linter.unusedSimpArgs false

theorem Sd_next {zs : List Int} {k : Nat} {x : Int} (h : zs[k]? = some x) : Sd (zs.take (k + 1)) = (Sd (zs.take k)).put (.int .i64 x) (.agg []) := by
  unfold Sd
  rw [List.take_add_one, h]
  simp only [Option.toList_some, List.map_append, List.map_cons, List.map_nil]
  exact setOf_snoc _ _ _
/-- Those that don't go. -/
def fltL (zs l : List Int) : List Int := l.filter (fun x => !decide (x ∈ zs))
def wL (zs : List Int) (ls : List (List Int)) : List (List Int) := (ls.map (fltL zs)).filter (fun l => !decide (l.length = 0))
theorem fltL_le (zs l : List Int) : (fltL zs l).length ≤ l.length := List.length_filter_le _ _
theorem wL_sum (zs : List Int) : ∀ ls : List (List Int), ((wL zs ls).map List.length).sum ≤ (ls.map List.length).sum
  | [] => by simp [wL]
  | l :: r => by
    have h := wL_sum zs r
    have h2 := fltL_le zs l
    unfold wL at h ⊢
    rw [List.map_cons, List.filter_cons]
    split
    · simp only [List.map_cons, List.sum_cons]
      omega
    · simp only [List.map_cons, List.sum_cons]
      omega
/-- A row that may be empty. -/
def R0 (g c : Nat) (W : World) (l : List Int) : Prop :=
  g < W.heap.size ∧ l.length ≤ c ∧ c ≤ 9223372036854775807 ∧ (∀ (i : Nat) (x : Int), l[i]? = some x → W.cell? ⟨g, i, none⟩ = some (.int .i64 x)) ∧ ∀ i, i < c → (W.cell? ⟨g, i, none⟩).isSome = true ∧ W.frozen? ⟨g, i, none⟩ = false
theorem BRw.r0 {g c : Nat} {W : World} {l : List Int} (h : BRw g c W l) : R0 g c W l := ⟨h.1, h.2.2.1, h.2.2.2.1, h.2.2.2.2.1, h.2.2.2.2.2⟩
theorem R0.brw {g c : Nat} {W : World} {l : List Int} (h : R0 g c W l) (h0 : 0 < l.length) : BRw g c W l := ⟨h.1, h0, h.2.1, h.2.2.1, h.2.2.2.1, h.2.2.2.2⟩
theorem R0.keep {g c : Nat} {W W' : World} {l : List Int} (h : R0 g c W l) (hs : W.heap.size ≤ W'.heap.size) (hk : W'.heap[g]? = W.heap[g]?) : R0 g c W' l := by
  obtain ⟨h1, h3, h4, h5, h6⟩ := h
  exact ⟨Nat.lt_of_lt_of_le h1 hs, h3, h4, fun i x hx => (World.cell?_of_block hk).trans (h5 i x hx), fun i hi => ⟨by rw [World.cell?_of_block hk]; exact (h6 i hi).1, (World.frozen?_of_block hk).trans (h6 i hi).2⟩⟩
/-- A batch: its block, its room, its numbers. -/
abbrev Q3 : Type := Nat × Nat × List Int
def qcur (zs : List Int) (i j : Nat) (l : List Int) : List Int := if j < i then fltL zs l else l
/-- Between two rounds: i batches are done. -/
structure WI (p b off cap sz : Nat) (zs : List Int) (qs : List Q3) (W : World) (i : Nat) (V : World) : Prop where
  sz_ : W.heap.size ≤ V.heap.size
  pb : p < W.heap.size ∧ b < W.heap.size ∧ p ≠ b ∧ b ∉ qs.map (fun q => q.1) ∧ p ∉ qs.map (fun q => q.1) ∧ (qs.map (fun q => q.1)).Nodup ∧ qs.length ≤ cap ∧ cap ≤ 9223372036854775807
  c0 : V.cell? ⟨p, 0, none⟩ = some (.int .i64 (sz : Int))
  c1 : V.cell? ⟨p, 1, none⟩ = some (.slice (some ⟨b, off, none⟩) qs.length cap)
  f1 : V.frozen? ⟨p, 1, none⟩ = false
  row : ∀ k, k < cap → (V.cell? ⟨b, off + k, none⟩).isSome = true ∧ V.frozen? ⟨b, off + k, none⟩ = false
  at_ : ∀ (j : Nat) (q : Q3), qs[j]? = some q → q.1 < W.heap.size ∧ V.cell? ⟨b, off + j, none⟩ = some (.slice (some ⟨q.1, 0, none⟩) (qcur zs i j q.2.2).length q.2.1) ∧ R0 q.1 q.2.1 V (qcur zs i j q.2.2)
  fr : ∀ k, k < W.heap.size → k ≠ b → k ∉ qs.map (fun q => q.1) → V.heap[k]? = W.heap[k]?
  st : V.os = W.os ∧ V.tape = W.tape ∧ V.output = W.output
  kb : ∀ o, (W.cell? ⟨b, o, none⟩).isSome = true → (V.cell? ⟨b, o, none⟩).isSome = true
section
variable {p b off cap sz i : Nat} {zs : List Int} {qs : List Q3} {W V V' : World}
theorem WI.below (h : WI p b off cap sz zs qs W i V) (hb : Below V.heap.size V V') : WI p b off cap sz zs qs W i V' := by
  have hs := h.sz_
  obtain ⟨h1, h2, -⟩ := h.pb
  have kp := hb.block p (by omega)
  have kb := hb.block b (by omega)
  exact ⟨Nat.le_trans hs hb.size, h.pb, (World.cell?_of_block kp).trans h.c0, (World.cell?_of_block kp).trans h.c1, (World.frozen?_of_block kp).trans h.f1, fun k hk => ⟨by rw [World.cell?_of_block kb]; exact (h.row k hk).1, (World.frozen?_of_block kb).trans (h.row k hk).2⟩,
    fun j q hj => by
      obtain ⟨e0, e1, e2⟩ := h.at_ j q hj
      exact ⟨e0, (World.cell?_of_block kb).trans e1, e2.keep hb.size (hb.block q.1 (by omega))⟩,
    fun k hk h3 h4 => (hb.block k (by omega)).trans (h.fr k hk h3 h4), ⟨hb.os.trans h.st.1, hb.tape.trans h.st.2.1, hb.output.trans h.st.2.2⟩, fun o ho => by rw [World.cell?_of_block kb]; exact h.kb o ho⟩
/-- One batch more is done. -/
theorem WI.next {q : Q3} {V2 V3 : World} (h : WI p b off cap sz zs qs W i V) (hq : qs[i]? = some q)
    (hd : ∀ (k : Nat) (x : Int), (fltL zs q.2.2)[k]? = some x → V2.cell? ⟨q.1, 0 + k, none⟩ = some (.int .i64 x)) (hk : KB q.1 V V2)
    (h3 : V3.heap = (V2.setCell ⟨b, off + i, none⟩ (.slice (some ⟨q.1, 0, none⟩) (fltL zs q.2.2).length q.2.1)).heap) (h4 : V3.os = V2.os) (h5 : V3.tape = V2.tape) (h6 : V3.output = V2.output) :
    WI p b off cap sz zs qs W (i + 1) V3 := by
  have hs := h.sz_
  obtain ⟨g1, g2, g3, g4, g5, g6, g7, g8⟩ := h.pb
  have hil : i < qs.length := (List.getElem?_eq_some_iff.1 hq).1
  obtain ⟨e0, e1, e2⟩ := h.at_ i q hq
  have hqm : q.1 ∈ qs.map (fun q => q.1) := List.mem_map.2 ⟨q, List.mem_of_getElem? hq, rfl⟩
  have hpq : p ≠ q.1 := fun e => g5 (e ▸ hqm)
  have hbq : b ≠ q.1 := fun e => g4 (e ▸ hqm)
  have hs3 : V3.heap.size = V2.heap.size := by rw [h3, size_set]
  have hs2 := hk.1
  have k3 : ∀ k, k ≠ b → V3.heap[k]? = V2.heap[k]? := fun k hk => by rw [h3]; exact heap_other _ b _ _ k hk
  have kp : V3.heap[p]? = V.heap[p]? := (k3 p g3).trans (hk.block (by omega) hpq)
  have kb2 : V2.heap[b]? = V.heap[b]? := hk.block (by omega) hbq
  have kb3 : ∀ (k : Nat), V3.cell? ⟨b, k, none⟩ = (V2.setCell ⟨b, off + i, none⟩ (.slice (some ⟨q.1, 0, none⟩) (fltL zs q.2.2).length q.2.1)).cell? ⟨b, k, none⟩ := fun k => World.cell?_of_block (by rw [h3])
  have kf3 : ∀ (k : Nat), V3.frozen? ⟨b, k, none⟩ = V2.frozen? ⟨b, k, none⟩ := fun k => (World.frozen?_of_block (w := V2.setCell ⟨b, off + i, none⟩ (.slice (some ⟨q.1, 0, none⟩) (fltL zs q.2.2).length q.2.1)) (by rw [h3])).trans (World.frozen?_setCell _ _ _ _)
  have hL0 := hk.2.2.2.2 0 (Nat.zero_le _) (Nat.zero_le _)
  have hrow := h.row
  refine ⟨by omega, h.pb, (World.cell?_of_block kp).trans h.c0, (World.cell?_of_block kp).trans h.c1, (World.frozen?_of_block kp).trans h.f1, fun k hk => ⟨?_, ?_⟩, fun j q2 hj => ?_, fun k hk9 h7 h8 => ?_, ⟨(h4.trans hL0.os).trans h.st.1, (h5.trans hL0.tape).trans h.st.2.1, (h6.trans hL0.output).trans h.st.2.2⟩, fun o ho => by
    rw [kb3]
    exact World.isSome_setCells b [.slice (some ⟨q.1, 0, none⟩) (fltL zs q.2.2).length q.2.1] (off + i) V2 ⟨b, o, none⟩ (by rw [World.cell?_of_block kb2]; exact h.kb o ho)⟩
  · rw [kb3]
    have := World.isSome_setCells b [.slice (some ⟨q.1, 0, none⟩) (fltL zs q.2.2).length q.2.1] (off + i) V2 ⟨b, off + k, none⟩ (by rw [World.cell?_of_block kb2]; exact (hrow k hk).1)
    exact this
  · rw [kf3, World.frozen?_of_block kb2]
    exact (hrow k hk).2
  · by_cases hji : j = i
    · subst hji
      obtain rfl : q = q2 := by rw [hq] at hj; exact Option.some.inj hj
      have hcur : qcur zs (j + 1) j q.2.2 = fltL zs q.2.2 := by unfold qcur; rw [if_pos (by omega)]
      rw [hcur]
      obtain ⟨u, hu⟩ := Option.isSome_iff_exists.1 (show (V2.cell? ⟨b, off + j, none⟩).isSome = true by rw [World.cell?_of_block kb2]; exact (hrow j (by omega)).1)
      refine ⟨e0, by rw [kb3]; exact World.cell?_setCell_same _ _ _ hu, ?_⟩
      obtain ⟨m1, m2, m3, m4, m5⟩ := e2
      have hcur0 : qcur zs j j q.2.2 = q.2.2 := by unfold qcur; rw [if_neg (by omega)]
      rw [hcur0] at m2
      have hle := fltL_le zs q.2.2
      have kq := k3 q.1 (Ne.symm hbq)
      refine ⟨by omega, by omega, m3, fun k x hx => ?_, fun k hk9 => ⟨?_, ?_⟩⟩
      · have := hd k x hx
        rw [Nat.zero_add] at this
        exact (World.cell?_of_block kq).trans this
      · rw [World.cell?_of_block kq]
        exact hk.2.2.1 _ (m5 k hk9).1
      · rw [World.frozen?_of_block kq, hk.2.2.2.1]
        exact (m5 k hk9).2
    · obtain ⟨n0, n1, n2⟩ := h.at_ j q2 hj
      have hcur : qcur zs (i + 1) j q2.2.2 = qcur zs i j q2.2.2 := by
        unfold qcur
        by_cases h9 : j < i
        · rw [if_pos h9, if_pos (by omega)]
        · rw [if_neg h9, if_neg (by omega)]
      rw [hcur]
      have hq2m : q2.1 ∈ qs.map (fun q => q.1) := List.mem_map.2 ⟨q2, List.mem_of_getElem? hj, rfl⟩
      have hne : q2.1 ≠ q.1 := fun e => by
        have a1 : (qs.map (fun q => q.1))[j]? = some q2.1 := by rw [List.getElem?_map, hj]; rfl
        have a2 : (qs.map (fun q => q.1))[i]? = some q2.1 := by rw [List.getElem?_map, hq, e]; rfl
        have hj9 : j < (qs.map (fun q => q.1)).length := (List.getElem?_eq_some_iff.1 a1).1
        exact hji ((List.getElem?_inj hj9 g6).1 (a1.trans a2.symm))
      have hb2 : q2.1 ≠ b := fun e => g4 (e ▸ hq2m)
      refine ⟨n0, ?_, n2.keep (by omega) ((k3 q2.1 hb2).trans (hk.block (by omega) hne))⟩
      rw [kb3, World.cell?_setCell_other _ _ _ _ (by intro e; injection e with _ e9 _; omega), World.cell?_of_block kb2]
      exact n1
  · have hkq : k ≠ q.1 := fun e => h8 (e ▸ hqm)
    exact (k3 k h7).trans ((hk.block (by omega) hkq).trans (h.fr k hk9 h7 h8))
theorem BT.wi {v : Value} {gs cs : List Nat} {ls : List (List Int)} {vals : List Value} (h : BT p b sz v gs cs ls vals W) (hv : v = .slice (some ⟨b, off, none⟩) ls.length cap) (zs : List Int) :
    ∃ qs : List Q3, qs.map (fun q => q.1) = gs ∧ qs.map (fun q => q.2.2) = ls ∧ WI p b off cap sz zs qs W 0 W := by
  refine ⟨List.zip gs (List.zip cs ls), ?_, ?_, ?_⟩
  · exact List.map_fst_zip (by rw [List.length_zip, h.inn.lg, h.inn.lc]; omega)
  · have e : (fun q : Q3 => q.2.2) = Prod.snd ∘ (fun q : Q3 => q.2) := rfl
    rw [e, ← List.map_map, List.map_snd_zip (by rw [List.length_zip, h.inn.lg, h.inn.lc]; omega), List.map_snd_zip (by rw [h.inn.lc]; omega)]
  · have hl : (List.zip gs (List.zip cs ls)).length = ls.length := by rw [List.length_zip, List.length_zip, h.inn.lg, h.inn.lc]; omega
    have hm : (List.zip gs (List.zip cs ls)).map (fun q => q.1) = gs := List.map_fst_zip (by rw [List.length_zip, h.inn.lg, h.inn.lc]; omega)
    subst hv
    obtain ⟨A, c, hv, q1, q2, q3, q4, ⟨q5, -, -⟩ | ⟨o2, q5, q6, q7, q8⟩⟩ := h.out
    · injection hv with hv _ _
      rw [q5] at hv
      cases hv
    · injection hv with hv _ hcc
      rw [q5] at hv
      injection hv with hv
      injection hv with _ hv _
      subst hv hcc
      refine ⟨Nat.le_refl _, ⟨h.lt, q6, h.df.1, by rw [hm]; exact h.df.2.2, by rw [hm]; exact h.df.2.1, by rw [hm]; exact h.inn.nd, by rw [hl]; exact q2, q3⟩, h.c0, by rw [hl]; exact h.c1, h.f1, fun k hk => by simpa using q8 k (by omega), fun j q hj => ?_, fun _ _ _ _ => rfl, ⟨rfl, rfl, rfl⟩, fun _ h => h⟩
      obtain ⟨a1, a2⟩ := List.getElem?_zip_eq_some.1 hj
      obtain ⟨a3, a4⟩ := List.getElem?_zip_eq_some.1 a2
      obtain ⟨g, c, b1, b2, b3, b4⟩ := h.inn.at_ j q.2.2 a4
      obtain rfl : q.1 = g := by rw [a1] at b1; exact Option.some.inj b1
      obtain rfl : q.2.1 = c := by rw [a3] at b2; exact Option.some.inj b2
      have hcur : qcur zs 0 j q.2.2 = q.2.2 := by unfold qcur; rw [if_neg (by omega)]
      rw [hcur]
      exact ⟨b4.1, q7 j _ b3, b4.r0⟩
/-- What is left behind the last round. -/
theorem WI.end_ {V2 V3 : World} (h : WI p b off cap sz zs qs W qs.length V) (hbig : 1 ≤ sz ∧ sz ≤ 16 ∧ qs.length ≤ 100000 ∧ ((qs.map (fun q => q.2.2)).map List.length).sum ≤ 100000)
    (hpos : ∃ o u, V.cell? ⟨b, o, none⟩ = some u)
    (hd : ∀ (k : Nat) (x : Nat × Nat × Nat), ((qs.map (fun q => (q.1, (fltL zs q.2.2).length, q.2.1))).filter (fun x => !decide (x.2.1 = 0)))[k]? = some x → V2.cell? ⟨b, off + k, none⟩ = some (.slice (some ⟨x.1, 0, none⟩) x.2.1 x.2.2)) (hk : KB b V V2)
    {m : Nat} (hm : m = ((qs.map (fun q => (q.1, (fltL zs q.2.2).length, q.2.1))).filter (fun x => !decide (x.2.1 = 0))).length)
    (h3 : V3.heap = (V2.setCell ⟨p, 1, none⟩ (.slice (some ⟨b, off, none⟩) m cap)).heap) (h4 : V3.os = V2.os) (h5 : V3.tape = V2.tape) (h6 : V3.output = V2.output) :
    ∃ gs' cs' vals', BT p b sz (.slice (some ⟨b, off, none⟩) m cap) gs' cs' (wL zs (qs.map (fun q => q.2.2))) vals' V3 ∧ (∀ g ∈ gs', g ∈ qs.map (fun q => q.1)) ∧ W.heap.size ≤ V3.heap.size ∧ (∀ k, k < W.heap.size → k ≠ p → k ≠ b → k ∉ qs.map (fun q => q.1) → V3.heap[k]? = W.heap[k]?) ∧ V3.os = W.os ∧ V3.tape = W.tape ∧ V3.output = W.output := by
  have hs := h.sz_
  obtain ⟨g1, g2, g3, g4, g5, g6, g7, g8⟩ := h.pb
  obtain ⟨qs', hqs'⟩ : ∃ qs', qs.filter (fun q => !decide ((fltL zs q.2.2).length = 0)) = qs' := ⟨_, rfl⟩
  have e1 : (qs.map (fun q => (q.1, (fltL zs q.2.2).length, q.2.1))).filter (fun x => !decide (x.2.1 = 0)) = qs'.map (fun q => (q.1, (fltL zs q.2.2).length, q.2.1)) := by
    rw [← hqs', List.filter_map]
    rfl
  have e2 : wL zs (qs.map (fun q => q.2.2)) = qs'.map (fun q => fltL zs q.2.2) := by
    unfold wL
    rw [List.map_map, List.filter_map, ← hqs']
    rfl
  have e3 : m = qs'.length := by rw [hm, e1, List.length_map]
  have hsub : ∀ q ∈ qs', q ∈ qs ∧ 0 < (fltL zs q.2.2).length := fun q hq => by
    rw [← hqs'] at hq
    have h9 := List.mem_filter.1 hq
    refine ⟨h9.1, ?_⟩
    have := h9.2
    simp at this
    exact List.length_pos_iff.2 this
  have hlen : qs'.length ≤ qs.length := by rw [← hqs']; exact List.length_filter_le _ _
  have hs2 := hk.1
  have hs3 : V3.heap.size = V2.heap.size := by rw [h3, size_set]
  have k3 : ∀ k, k ≠ p → V3.heap[k]? = V2.heap[k]? := fun k hk => by rw [h3]; exact heap_other _ p _ _ k hk
  have kp2 : V2.heap[p]? = V.heap[p]? := hk.block (by omega) g3
  have hc1 : V2.cell? ⟨p, 1, none⟩ = _ := (World.cell?_of_block kp2).trans h.c1
  have hwi := h.at_
  have kb := k3 b (Ne.symm g3)
  have hL0 := hk.2.2.2.2 0 (Nat.zero_le _) (Nat.zero_le _)
  rw [e2]
  refine ⟨qs'.map (fun q => q.1), qs'.map (fun q => q.2.1), qs'.map (fun q => .slice (some ⟨q.1, 0, none⟩) (fltL zs q.2.2).length q.2.1), ⟨by omega, ?_, ?_, ?_, ?_, ⟨by simp, by simp, by simp, fun j l hj => ?_, ?_⟩, ⟨g3, ?_, ?_⟩, ⟨hbig.1, hbig.2.1, ?_, ?_⟩, fun _ => ?_⟩, ?_, by omega, ?_, ?_⟩
  · have : V3.cell? ⟨p, 0, none⟩ = (V2.setCell ⟨p, 1, none⟩ (.slice (some ⟨b, off, none⟩) m cap)).cell? ⟨p, 0, none⟩ := World.cell?_of_block (by rw [h3])
    rw [this, World.cell?_setCell_other _ _ _ _ (by intro e; injection e with _ e9 _; omega), World.cell?_of_block kp2]
    exact h.c0
  · have : V3.cell? ⟨p, 1, none⟩ = (V2.setCell ⟨p, 1, none⟩ (.slice (some ⟨b, off, none⟩) m cap)).cell? ⟨p, 1, none⟩ := World.cell?_of_block (by rw [h3])
    rw [this]
    exact World.cell?_setCell_same _ _ _ hc1
  · have : V3.frozen? ⟨p, 1, none⟩ = (V2.setCell ⟨p, 1, none⟩ (.slice (some ⟨b, off, none⟩) m cap)).frozen? ⟨p, 1, none⟩ := World.frozen?_of_block (by rw [h3])
    rw [this, World.frozen?_setCell, World.frozen?_of_block kp2]
    exact h.f1
  · refine ⟨_, cap, by rw [e3, List.length_map], by simp, by simp; omega, g8, fun u hu => ?_, .inr ⟨off, rfl, by omega, fun j u hu => ?_, fun k hk9 => ⟨?_, ?_⟩⟩⟩
    · obtain ⟨q, -, rfl⟩ := List.mem_map.1 hu
      rfl
    · rw [World.cell?_of_block kb]
      rw [List.getElem?_map] at hu
      obtain ⟨q, hq, rfl⟩ := Option.map_eq_some_iff.1 hu
      exact hd j (q.1, (fltL zs q.2.2).length, q.2.1) (by rw [e1, List.getElem?_map, hq]; rfl)
    · rw [World.cell?_of_block kb]
      exact hk.2.2.1 _ (h.row k (by omega)).1
    · rw [World.frozen?_of_block kb, hk.2.2.2.1]
      exact (h.row k (by omega)).2
  · rw [List.getElem?_map] at hj
    obtain ⟨q, hq, rfl⟩ := Option.map_eq_some_iff.1 hj
    obtain ⟨hq1, hq2⟩ := hsub q (List.mem_of_getElem? hq)
    obtain ⟨j0, hj0⟩ := List.getElem?_of_mem hq1
    obtain ⟨a0, a1, a2⟩ := hwi j0 q hj0
    have hcur : qcur zs qs.length j0 q.2.2 = fltL zs q.2.2 := by unfold qcur; rw [if_pos (List.getElem?_eq_some_iff.1 hj0).1]
    rw [hcur] at a2
    have hqm : q.1 ∈ qs.map (fun q => q.1) := List.mem_map.2 ⟨q, hq1, rfl⟩
    refine ⟨q.1, q.2.1, by rw [List.getElem?_map, hq]; rfl, by rw [List.getElem?_map, hq]; rfl, by rw [List.getElem?_map, hq]; rfl, R0.brw (a2.keep (by omega) ((k3 q.1 (fun e => g5 (e ▸ hqm))).trans (hk.block (by omega) (fun e => g4 (e ▸ hqm))))) hq2⟩
  · rw [← hqs']
    exact g6.sublist ((List.filter_sublist).map _)
  · intro hm9
    obtain ⟨q, hq, e⟩ := List.mem_map.1 hm9
    exact g5 (List.mem_map.2 ⟨q, (hsub q hq).1, e⟩)
  · intro hm9
    obtain ⟨q, hq, e⟩ := List.mem_map.1 hm9
    exact g4 (List.mem_map.2 ⟨q, (hsub q hq).1, e⟩)
  · rw [List.length_map]; omega
  · rw [← e2]
    have := wL_sum zs (qs.map (fun q => q.2.2))
    omega
  · obtain ⟨o, u, hu⟩ := hpos
    obtain ⟨u2, hu2⟩ := Option.isSome_iff_exists.1 (hk.2.2.1 o (by rw [hu]; rfl))
    exact ⟨o, u2, (World.cell?_of_block kb).trans hu2⟩
  · intro g hg
    obtain ⟨q, hq, e⟩ := List.mem_map.1 hg
    exact List.mem_map.2 ⟨q, (hsub q hq).1, e⟩
  · intro k h7 h8 h9 h10
    exact (k3 k h8).trans ((hk.block (by omega) h9).trans (h.fr k h7 h9 h10))
  · exact ⟨(h4.trans hL0.os).trans h.st.1, (h5.trans hL0.tape).trans h.st.2.1, (h6.trans hL0.output).trans h.st.2.2⟩
end
end Go.Proofs.Ytokdjonnblbegaa
