/- Contracts of package batch: Give. -/
import Derived.Test.YtokdjonnblbegaaBaH0
import Derived.Deep.RegionHeld3
import Derived.RangeFuncFrom
import Derived.Deep.DeepCutAuto
namespace Go.Proofs.Ytokdjonnblbegaa
set_option maxRecDepth 100000
open Go.RowKit Go.Shelf
set_option linter.unusedVariables false
set_option linter.unusedSimpArgs false
attribute [local go_sem] Oper.semAt_some

def ChunkPost (A : Option Addr) (n c : Nat) (k : Int) (W : World) (e : Ending) (w' : World) : Prop :=
  ∃ s t, e = .returned (.func (.func 20) #[] #[.pointer (some ⟨s, 0, none⟩), .pointer (some ⟨t, 0, none⟩)]) ∧ s = W.heap.size ∧ t = W.heap.size + 1 ∧ (w'.cell? ⟨s, 0, none⟩ = some (.slice A n c) ∧ w'.cell? ⟨t, 0, none⟩ = some (.int .i64 k)) ∧ w'.heap.size = W.heap.size + 2 ∧ Below W.heap.size W w'
theorem chunk_any (A : Option Addr) (n c : Nat) (k : Int) (hk : 1 ≤ k) (W : World) : Calls Try.prog 13 #[.slice A n c, .int .i64 k] W (ChunkPost A n c k W) := by
  have h1 : ¬ k < 1 := by omega
  go_enter Try.func13, Try.ntmps13
  go_wp2_with fail
  go_ret
  exact ⟨_, _, rfl, rfl, rfl, ⟨by simp, by simp⟩, by simp, alc (alc0 _ _) _⟩
/-- The new batches: their blocks are old ones or new. -/
def BGV (p sz B b : Nat) (gs : List Nat) (ls : List (List Int)) (V : World) : Prop :=
  ∃ b' v' gs' cs' vals', BT p b' sz v' gs' cs' ls vals' V ∧ (b' = b ∧ b < B ∨ B + 3 ≤ b') ∧ ∀ g ∈ gs', g ∈ gs ∨ B ≤ g
/-- Between two rounds: the batches with the pieces that have come. -/
def GI (p sz : Nat) (W : World) (n : Nat) (b : Nat) (gs : List Nat) (zs : List Int) (ls : List (List Int)) (pre : List (Pc n sz)) (V : World) : Prop :=
  BGV p sz W.heap.size b gs (ls ++ pre.map (pcL zs)) V ∧ V.cell? ⟨W.heap.size, 0, none⟩ = some (.pointer (some ⟨p, 0, none⟩)) ∧
    W.heap.size + 3 ≤ V.heap.size ∧ (∀ i, i < W.heap.size → i ≠ p → i ≠ b → V.heap[i]? = W.heap[i]?) ∧ V.os = W.os ∧ V.tape = W.tape ∧ V.output = W.output
theorem gi_own (p sz : Nat) (W : World) (n b : Nat) (gs : List Nat) (zs : List Int) (ls : List (List Int)) (B : Nat) (hB : W.heap.size ≤ B) : OwnFrom B (GI p sz W n b gs zs ls) := by
  intro pre V V' row ⟨⟨b', v', gs', cs', vals', h1, h2, h3⟩, h4, h5, h6, h7, h8, h9⟩ hg hr
  have hr2 : ∀ r, row = some r → ∃ o : Obj, V.heap[r]? = some o ∧ o.isCells = false := fun r e => (hr r e).2
  exact ⟨⟨b', v', gs', cs', vals', h1.grown hg hr2, h2, h3⟩, cell_kept h4 hg hr2, Nat.le_trans h5 hg.size, fun i hi h10 h11 => (hg.block i (by omega) (fun e => by have := (hr i e.symm).1; omega)).trans (h6 i hi h10 h11), hg.os.trans h7, hg.tape.trans h8, hg.output.trans h9⟩
def BGivePost (p sz : Nat) (b : Nat) (gs : List Nat) (ls : List (List Int)) (zs : List Int) (W : World) (e : Ending) (w' : World) : Prop :=
  e = .returned (.tuple #[]) ∧ BGV p sz W.heap.size b gs (ls ++ chL sz zs) w' ∧ W.heap.size ≤ w'.heap.size ∧ (∀ i, i < W.heap.size → i ≠ p → i ≠ b → w'.heap[i]? = W.heap[i]?) ∧ w'.os = W.os ∧ w'.tape = W.tape ∧ w'.output = W.output
theorem BT.mem_lt {p b sz : Nat} {v : Value} {gs cs : List Nat} {ls : List (List Int)} {vals : List Value} {W : World} (h : BT p b sz v gs cs ls vals W) {g : Nat} (hg : g ∈ gs) : g < W.heap.size := by
  obtain ⟨j, hj⟩ := List.getElem?_of_mem hg
  have hjl : j < ls.length := by rw [← h.inn.lg]; exact (List.getElem?_eq_some_iff.1 hj).1
  obtain ⟨g2, c, e1, -, -, hrow⟩ := h.inn.at_ j _ (List.getElem?_eq_getElem hjl)
  obtain rfl : g2 = g := by rw [hj] at e1; exact (Option.some.inj e1).symm
  exact hrow.1
theorem gi_base {p b b' sz Wn D : Nat} {v : Value} {gs cs : List Nat} {L : List (List Int)} {vals : List Value} {V w3 : World} (h : BT p b' sz v gs cs L vals V) (hc : b' = b ∧ b < Wn ∨ Wn + 3 ≤ b') (hB : Below V.heap.size V w3) (hV : Wn + 3 ≤ V.heap.size) (hD : V.heap.size ≤ D) (hp : p < Wn) :
    ∃ b2, BT p b2 sz v gs cs L vals w3 ∧ b2 ≠ D ∧ D ∉ gs ∧ D ≠ p ∧ b2 ≠ Wn ∧ b2 ≠ Wn + 1 ∧ b2 ≠ Wn + 1 + 1 ∧ (b2 = b ∧ b < Wn ∨ Wn + 3 ≤ b2) ∧ ∀ (k : Nat) (o : Obj), V.heap[k]? = some o → o.isCells = false → k ≠ b2 := by
  have hg : D ∉ gs := fun hm => by have := h.mem_lt hm; omega
  have h3 := h.below hB
  by_cases hv : v = .slice none 0 0
  · subst hv
    refine ⟨D + 1, h3.rebase (by omega), by omega, hg, by omega, by omega, by omega, by omega, .inr (by omega), fun k o hk _ => ?_⟩
    have := (Array.getElem?_eq_some_iff.1 hk).1
    omega
  · obtain ⟨o, u, ho⟩ := h.kc hv
    have hlt := World.block_lt_of_cell? V _ ho
    refine ⟨b', h3, ?_, hg, by omega, by omega, by omega, by omega, hc, fun k ob hk hcc e => ?_⟩
    · intro e
      simp only at hlt
      omega
    · subst e
      obtain ⟨ob2, h7, h8⟩ := cells_of_cell ho
      rw [hk] at h7
      cases h7
      rw [hcc] at h8
      cases h8
theorem gi_step {p b b' sz D cap n o0 : Nat} {v v3 : Value} {gs gs' cs : List Nat} {ls : List (List Int)} {vals : List Value} {zs : List Int} {W V w3 w4 : World} {pre : List (Pc n sz)} {x : Pc n sz} {b2 : Nat}
    (h1 : BT p b' sz v gs' cs (ls ++ pre.map (pcL zs)) vals V) (hpW : p < W.heap.size) (h3 : ∀ g ∈ gs', g ∈ gs ∨ W.heap.size ≤ g) (h4 : V.cell? ⟨W.heap.size, 0, none⟩ = some (.pointer (some ⟨p, 0, none⟩)))
    (h5 : W.heap.size + 3 ≤ V.heap.size) (h6 : ∀ i, i < W.heap.size → i ≠ p → i ≠ b → V.heap[i]? = W.heap[i]?) (h7 : V.os = W.os) (h8 : V.tape = W.tape) (h9 : V.output = W.output)
    (hB : Below V.heap.size V w3) (hD : V.heap.size ≤ D) (hR : BRw D cap w3 (pcL zs x))
    (ht : BT p b2 sz v gs' cs (ls ++ pre.map (pcL zs)) vals w3) (k1 : b2 ≠ D) (k2 : D ∉ gs') (k3 : D ≠ p) (k4 : b2 ≠ W.heap.size) (k5 : b2 ≠ W.heap.size + 1) (k6 : b2 ≠ W.heap.size + 1 + 1) (k7 : b2 = b ∧ b < W.heap.size ∨ W.heap.size + 3 ≤ b2) (k8 : ∀ (k : Nat) (o : Obj), V.heap[k]? = some o → o.isCells = false → k ≠ b2)
    (hn2 : ls.length + n ≤ 100000) (hn3 : (ls.map List.length).sum + 16 * n ≤ 100000) (hlen : pre.length < n) (hx : (pcL zs x).length ≤ 16)
    (hV : VPost 1 b2 w3 ((ls ++ pre.map (pcL zs)).length + 1) (vals ++ [.slice (some ⟨D, 0, none⟩) (pcL zs x).length cap]) v3 w4) :
    w4.cell? ⟨p, 1, none⟩ = some v ∧ w4.frozen? ⟨p, 1, none⟩ = false ∧ w4.cell? ⟨W.heap.size, 0, none⟩ = some (.pointer (some ⟨p, 0, none⟩)) ∧
    ∀ w5 : World, w5.heap = (w4.setCell ⟨p, 1, none⟩ v3).heap → w5.os = w4.os → w5.tape = w4.tape → w5.output = w4.output → w5.cell? ⟨W.heap.size, 0, none⟩ = some (.pointer (some ⟨p, 0, none⟩)) ∧ (KeepsOthers V w5 ∧ KP (W.heap.size + 1) (W.heap.size + 1 + 1) V w5 ∧ GI p sz W n b gs zs ls (pre ++ [x]) w5) := by
  have hsum := pc_sum zs ht.big.2.1 (by omega) (by have := ht.big.1; omega) pre
  obtain ⟨q1, q2, q3, q4⟩ := ht.push hR k2 k3 (Ne.symm k1) hV (by simp; omega) (by simp only [List.map_append, List.sum_append_nat]; omega)
  have hw3 : V.heap.size ≤ w3.heap.size := hB.size
  have hbx : w4.heap[W.heap.size]? = V.heap[W.heap.size]? := (q3 _ (by omega) (Ne.symm k4)).trans (hB.block _ (by omega))
  refine ⟨q1, q2, (World.cell?_of_block hbx).trans h4, fun w5 e1 e2 e3 e4 => ?_⟩
  obtain ⟨b5, r1, r2, r3, r4⟩ := q4 w5 e1
  have hb0 := hV
  obtain ⟨-, -, -, -, -, hL⟩ := hb0
  have hB0 := hL 0 (Nat.zero_le _) (Nat.zero_le _)
  have hfr : ∀ i, i < V.heap.size → i ≠ p → i ≠ b2 → w5.heap[i]? = V.heap[i]? := fun i hi g1 g2 => (r4 i (by omega) g1 g2).trans (hB.block i hi)
  have hfc : ∀ i o, i < V.heap.size → i ≠ p → i ≠ b2 → w5.cell? ⟨i, o, none⟩ = V.cell? ⟨i, o, none⟩ := fun i o hi g1 g2 => World.cell?_of_block (hfr i hi g1 g2)
  have hbx5 : w5.cell? ⟨W.heap.size, 0, none⟩ = some (.pointer (some ⟨p, 0, none⟩)) := (hfc _ 0 (by omega) (by omega) (Ne.symm k4)).trans h4
  refine ⟨hbx5, ⟨by omega, fun k o hk hc => ?_⟩, ⟨hfc _ 0 (by omega) (by omega) (Ne.symm k5), hfc _ 0 (by omega) (by omega) (Ne.symm k6)⟩, ⟨b5, v3, gs' ++ [D], cs ++ [cap], vals ++ [.slice (some ⟨D, 0, none⟩) (pcL zs x).length cap], ?_, ?_, fun g hg => ?_⟩, hbx5, by omega, fun i hi g1 g2 => ?_, (e2.trans hB0.os).trans (hB.os.trans h7), (e3.trans hB0.tape).trans (hB.tape.trans h8), (e4.trans hB0.output).trans (hB.output.trans h9)⟩
  · refine (hfr k (Array.getElem?_eq_some_iff.1 hk).1 ?_ (k8 k o hk hc)).trans hk
    rintro rfl
    obtain ⟨ob2, m7, m8⟩ := cells_of_cell h1.c0
    rw [hk] at m7
    cases m7
    rw [hc] at m8
    cases m8
  · rw [List.map_append, ← List.append_assoc]
    exact r2
  · rcases r1 with rfl | r1
    · exact k7
    · exact .inr (by omega)
  · rcases List.mem_append.1 hg with hg | hg
    · exact h3 g hg
    · rw [List.mem_singleton.1 hg]
      exact .inr (by omega)
  · refine (hfr i (by omega) g1 ?_).trans (h6 i hi g1 g2)
    rcases k7 with ⟨rfl, _⟩ | k7
    · exact g2
    · omega
set_option maxHeartbeats 1600000 in
theorem bgive_t {b0 o0 : Nat} {zs : List Int} {p b sz : Nat} {v : Value} {gs cs : List Nat} {ls : List (List Int)} {vals : List Value} {A : Option Addr} {n c : Nat} {W : World} (hA : n = 0 ∨ A = some ⟨b0, o0, none⟩) (hzn : zs.length = n) (hzs : ∀ (i : Nat) (x : Int), zs[i]? = some x → W.cell? ⟨b0, o0 + i, none⟩ = some (.int .i64 x)) (hb0 : n = 0 ∨ b0 ≠ p ∧ b0 ≠ b) (hn2 : ls.length + n ≤ 100000) (hn3 : (ls.map List.length).sum + 16 * n ≤ 100000) (hnc : n ≤ c) (hbb : b < W.heap.size ∨ v = .slice none 0 0) (h : BT p b sz v gs cs ls vals W) : Calls Try.prog 5 #[.pointer (some ⟨p, 0, none⟩), .slice A n c] W (BGivePost p sz b gs ls zs W) := by
  have H := Lib.hid h
  have c0 := h.c0
  have c1 := h.c1
  have hbig := h.big
  have hp := h.lt
  have hz1 : (1 : Int) ≤ (sz : Int) := by omega
  have HZS := Lib.hid hzs
  have HBB := Lib.hid hbb
  have HB0 := Lib.hid hb0
  have HZN := Lib.hid hzn
  clear h hzs hbb hb0 hzn
  refine (callsIn_wide (n := 5)).1 ?_
  refine callsIn_of_wp_marks Try.func5 rfl trivial ?_ rfl
  simp only [Try.ntmps5, List.size_toArray, List.length_cons, List.length_nil, Nat.reduceAdd, Nat.reduceSub, Array.replicate_succ, Array.replicate_zero, List.push_toArray, List.append_toArray, List.nil_append, List.cons_append]
  gi_wp2
  refine ⟨trivial, (callsIn_wide.2 (chunk_any A n c (sz : Int) hz1 _)).mono ?_⟩
  rintro e w1 ⟨s, t, rfl, hs, ht, hst, hsz, hb⟩
  gi_wp2
  have hs1 : s = W.heap.size + 1 := by simpa using hs
  have ht1 : t = W.heap.size + 1 + 1 := by simpa using ht
  have hz9 : w1.heap.size = W.heap.size + 1 + 2 := by simpa using hsz
  refine wpIn_rangeFunc_ownF (w0 := w1) rfl (by decide) (gf := 20) (lb := #[.pointer (some ⟨W.heap.size + 1, 0, none⟩), .pointer (some ⟨W.heap.size + 1 + 1, 0, none⟩)]) rfl trivial (enters_of Try.func20 (by kernel_rfl) rfl)
    (chunk_stops Fence.wide 4 trivial rfl (by decide) (W.heap.size + 1) (W.heap.size + 1 + 1) b0 o0 n c sz A hA (by omega) (by omega) (by omega) hnc w1 (by rw [← hs1]; exact hst.1) (by rw [← ht1]; exact hst.2) (by omega) (by omega))
    (fun h k => KP.trans h k) (fun V l o o' => KP.put (w := w1) (by omega) (by omega) V l o o') (Below.refl _ _) (fun _ => rfl)
    (GI p sz W n b gs zs ls) (fun _ _ _ => False) (gi_own p sz W n b gs zs ls _ (by omega)) (fun _ _ _ _ _ h _ _ => h) ?start
    (fun x => { tmps := #[.pointer (some ⟨p, 0, none⟩), .slice A n c, .pointer (some ⟨W.heap.size, 0, none⟩), undef, .slice (some ⟨b0, o0 + x.1.1, none⟩) x.1.2 x.1.2, .pointer (some ⟨p, 0, none⟩), .bool false, .slice A n c, .pointer (some ⟨p, 0, none⟩), .pointer (some ⟨p, 0, none⟩), .pointer (some ⟨p, 0, none⟩), .int .i64 (sz : Int), .func (.func 20) #[] #[.pointer (some ⟨W.heap.size + 1, 0, none⟩), .pointer (some ⟨W.heap.size + 1 + 1, 0, none⟩)], .slice (some ⟨b0, o0 + x.1.1, none⟩) x.1.2 x.1.2, undef, undef, undef, undef, undef, undef, undef, undef, undef, undef, undef], defers := [] }) ?assign ?body ?done (fun _ _ _ _ _ _ h _ => h.elim)
  case start =>
    have hbW : Below W.heap.size W w1 := (alc0 W _).trans (hb.mono (by simp))
    have hT := H.out.below hbW
    refine ⟨?_, ?_, by omega, fun i hi _ _ => hbW.block i hi, hbW.os, hbW.tape, hbW.output⟩
    · rw [List.map_nil, List.append_nil]
      rcases HBB.out with h9 | rfl
      · exact ⟨b, v, gs, cs, vals, hT, .inl ⟨rfl, h9⟩, fun g hg => .inl hg⟩
      · exact ⟨W.heap.size + 3, _, gs, cs, vals, hT.rebase (by omega), .inr (Nat.le_refl _), fun g hg => .inl hg⟩
    · have := hb.cell (p := ⟨W.heap.size, 0, none⟩) (by simp)
      rw [this]
      simp
  case assign =>
    intro l x V K hK
    simp only [enS]
    gi_wp2
    exact hK
  case body =>
    intro l pre x V hI hlen
    obtain ⟨⟨b', v', gs', cs', vals', h1, h2, h3⟩, h4, h5, h6, h7, h8, h9⟩ := hI
    have hn0 : n ≠ 0 := by omega
    have hx : 1 ≤ x.1.2 ∧ x.1.2 ≤ sz ∧ x.1.1 + x.1.2 ≤ n := by
      rcases x.2 with h | h | h
      · exact absurd h hn0
      · omega
      · exact h
    have hb9 := HB0.out.resolve_left hn0
    obtain ⟨S0, hS0⟩ : ∃ S0, x.1.1 = S0 := ⟨_, rfl⟩
    obtain ⟨M0, hM0⟩ : ∃ M0, x.1.2 = M0 := ⟨_, rfl⟩
    have HPC : Hid ((List.range M0).map (fun i => (zs[S0 + i]?).getD 0) = pcL zs x) := Lib.hid (by
      unfold pcL
      rw [hS0, hM0]
      refine List.ext_getElem? (fun i => ?_)
      by_cases hi : i < M0
      · rw [List.getElem?_take, if_pos hi, List.getElem?_drop, List.getElem?_map, List.getElem?_range hi, Option.map_some, List.getElem?_eq_getElem (show S0 + i < zs.length by have := HZN.out; omega), Option.getD_some]
      · rw [List.getElem?_eq_none (by simp; omega), List.getElem?_take, if_neg hi])
    have HSRC : Hid (∀ i, i < M0 → V.cell? ⟨b0, (o0 + S0) + i, none⟩ = some (.int .i64 ((zs[S0 + i]?).getD 0))) := Lib.hid (fun i hi => by
      have hlt : S0 + i < zs.length := by have := HZN.out; omega
      have hc := HZS.out (S0 + i) _ (List.getElem?_eq_getElem hlt)
      rw [List.getElem?_eq_getElem hlt, Option.getD_some, Nat.add_assoc]
      exact (World.cell?_of_block (h6 b0 (World.block_lt_of_cell? W _ hc) hb9.1 hb9.2)).trans hc)
    have hpV : p < V.heap.size := h1.lt
    have d1 := h1.c1
    have HBT := Lib.hid h1
    simp only [hS0, hM0]
    rw [hS0, hM0] at hx
    clear hS0 hM0
    have hM1 : 0 < M0 := by omega
    have hM2 : M0 ≤ 262144 := by omega
    have HX := Lib.hid hx
    clear hx h1
    have hbx : W.heap.size < V.heap.size := by omega
    have hpbx : p ≠ W.heap.size := by omega
    have HH := Lib.hid (And.intro h2 (And.intro h3 (And.intro h6 (And.intro h7 (And.intro h8 h9)))))
    clear h2 h3 h6 h7 h8 h9
    gi_wp2
    refine wpIn_round_held (S := fun w' => w'.cell? ⟨W.heap.size, 0, none⟩ = some (.pointer (some ⟨p, 0, none⟩))) l _ ?nd ?lo (by kernel_rfl) ?s0 (fun hHeld => ?_)
    case nd =>
      intro i o ho c e
      rcases i with _ | _ | _ | _ | _ | _ | _ | _ | _ | _ | _ | _ | i
      all_goals first
        | (have h9 := Option.some.inj ho; subst h9; cases e)
        | (simp at ho)
    case lo =>
      rintro ⟨a, w, h⟩
      exact h
    case s0 => exact h4
    have HLEN : Hid ((pcL zs x).length = M0) := Lib.hid (by rw [← HPC.out]; simp)
    have HSP := Lib.hid hlen
    have HN2 := Lib.hid hn2
    have HN3 := Lib.hid hn3
    have H4 := Lib.hid h4
    clear hn2 hn3 hlen hA hst hs ht hsz hb hs1 ht1 hz9 hnc
    refine wpAnyH_take (i := 0) (v := ?_) rfl (by kernel_rfl) (by kernel_rfl) (by kernel_rfl) (fun _ _ _ h => h) (Or.inl ⟨by kernel_rfl, ?_⟩) (by assumption) ?_
    rotate_left
    · (intro w hSw; (try dsimp only at hSw); go_simp)
      try (with_reducible rfl)
    rotate_left
    try simp (maxSteps := 4000000) only [Act.put, List.setIfInBounds_toArray, List.set_cons_zero, List.set_cons_succ, List.getElem_toArray, List.getElem_cons_zero, List.getElem_cons_succ]
    refine wpAnyH_take (i := 1) (v := ?_) rfl (by kernel_rfl) (by kernel_rfl) (by kernel_rfl) (fun _ _ _ h => h) (Or.inl ⟨by kernel_rfl, ?_⟩) (by assumption) ?_
    rotate_left
    · (intro w hSw; (try dsimp only at hSw); go_simp)
      try (with_reducible rfl)
    rotate_left
    try simp (maxSteps := 4000000) only [Act.put, List.setIfInBounds_toArray, List.set_cons_zero, List.set_cons_succ, List.getElem_toArray, List.getElem_cons_zero, List.getElem_cons_succ]
    refine wpAnyH_take (i := 2) (v := ?_) rfl (by kernel_rfl) (by kernel_rfl) (by kernel_rfl) (fun _ _ _ h => h) (Or.inl ⟨by kernel_rfl, ?_⟩) (by assumption) ?_
    rotate_left
    · (intro w hSw; (try dsimp only at hSw); go_simp)
      try (with_reducible rfl)
    rotate_left
    try simp (maxSteps := 4000000) only [Act.put, List.setIfInBounds_toArray, List.set_cons_zero, List.set_cons_succ, List.getElem_toArray, List.getElem_cons_zero, List.getElem_cons_succ]
    refine wpAnyH_take (i := 3) (v := ?_) rfl (by kernel_rfl) (by kernel_rfl) (by kernel_rfl) (fun _ _ _ h => h) (Or.inl ⟨by kernel_rfl, ?_⟩) (by assumption) ?_
    rotate_left
    · (intro w hSw; (try dsimp only at hSw); go_simp)
      try (with_reducible rfl)
    rotate_left
    try simp (maxSteps := 4000000) only [Act.put, List.setIfInBounds_toArray, List.set_cons_zero, List.set_cons_succ, List.getElem_toArray, List.getElem_cons_zero, List.getElem_cons_succ]
    refine wpAnyH_take (i := 5) (v := ?_) rfl (by kernel_rfl) (by kernel_rfl) (by kernel_rfl) (fun _ _ _ h => h) (Or.inl ⟨by kernel_rfl, ?_⟩) (by assumption) ?_
    rotate_left
    · (intro w hSw; (try dsimp only at hSw); go_simp)
      try (with_reducible rfl)
    rotate_left
    try simp (maxSteps := 4000000) only [Act.put, List.setIfInBounds_toArray, List.set_cons_zero, List.set_cons_succ, List.getElem_toArray, List.getElem_cons_zero, List.getElem_cons_succ]
    refine wpAnyH_ready (rs := [4, 6]) (by kernel_rfl) (by simp) ?_
    refine AllReadyH.cons rfl (fun K2 hK2 => ?_) (AllReadyH.cons rfl (fun K2 hK2 => ?_) AllReadyH.nil)
    all_goals go_simp
    · refine hK2.out _ _ (hHeld) (fun hHeld2 => ?_)
      clear hK2 K2 hHeld
      have hHeld := hHeld2
      clear hHeld2
      try simp (maxSteps := 4000000) only [Act.put, List.setIfInBounds_toArray, List.set_cons_zero, List.set_cons_succ]
      refine wpAnyH_ready (rs := [6]) (by kernel_rfl) (by simp) ?_
      refine AllReadyH.cons rfl (fun K2 hK2 => ?_) AllReadyH.nil
      go_simp
      have hs9 : ∀ i, i < M0 → V.drew.cell? ⟨b0, (o0 + S0) + i, none⟩ = some (.int .i64 ((zs[S0 + i]?).getD 0)) := fun i hi => HSRC.out i hi
      with_reducible refine Calls.mono (iclone V.drew b0 (o0 + S0) M0 M0 (fun i => (zs[S0 + i]?).getD 0) hs9 hM1 hM2) ?_
      rintro e w2 ⟨D, cap, rfl, hD1, hD2, hD3⟩
      have hD3' : Below V.heap.size V w2 := ((Below.refl _ V).drew).trans hD3
      have HR : Hid (BRw D cap w2 (pcL zs x)) := Lib.hid (by rw [← HPC.out]; exact hD2)
      have HD : Hid (V.heap.size ≤ D) := Lib.hid hD1
      have HB2 := Lib.hid hD3'
      have e1 : w2.cell? ⟨p, 1, none⟩ = some v' := (hD3'.cell (p := ⟨p, 1, none⟩) hpV).trans d1
      have e2 : w2.cell? ⟨W.heap.size, 0, none⟩ = some (.pointer (some ⟨p, 0, none⟩)) := (hD3'.cell (p := ⟨W.heap.size, 0, none⟩) hbx).trans h4
      clear hD1 hD2 hD3 hD3' hs9
      refine hK2.out _ _ (e2) (fun hHeld2 => ?_)
      clear hK2 K2 hHeld
      have hHeld := hHeld2
      clear hHeld2
      try simp (maxSteps := 4000000) only [Act.put, List.setIfInBounds_toArray, List.set_cons_zero, List.set_cons_succ]
      refine wpAnyH_ready (rs := [7]) (by kernel_rfl) (by simp) ?_
      refine AllReadyH.cons rfl (fun K2 hK2 => ?_) AllReadyH.nil
      go_simp
      refine hK2.out _ _ (((alc0 _ _).cell (p := ⟨W.heap.size, 0, none⟩) (World.block_lt_of_cell? _ _ e2)).trans e2) (fun hHeld2 => ?_)
      clear hK2 K2 hHeld
      have hHeld := hHeld2
      clear hHeld2
      try simp (maxSteps := 4000000) only [Act.put, List.setIfInBounds_toArray, List.set_cons_zero, List.set_cons_succ]
      refine wpAnyH_ready (rs := [8]) (by kernel_rfl) (by simp) ?_
      refine AllReadyH.cons rfl (fun K2 hK2 => ?_) AllReadyH.nil
      have hAL : ∀ T, Below w2.heap.size w2 (w2.alloc (.cells #[.slice (some ⟨D, 0, none⟩) M0 cap] T)) := fun T => alc0 _ _
      have hnew : ∀ T, (w2.alloc (.cells #[.slice (some ⟨D, 0, none⟩) M0 cap] T)).cell? ⟨w2.heap.size, 0, none⟩ = some (.slice (some ⟨D, 0, none⟩) M0 cap) := fun T => by simp
      obtain ⟨w3, hw3⟩ : ∃ w3, w2.alloc (.cells #[.slice (some ⟨D, 0, none⟩) M0 cap] 26) = w3 := ⟨_, rfl⟩
      have hB3 := hAL 26
      have hc3 := hnew 26
      rw [hw3] at hB3 hc3 ⊢
      have hBV3 : Below V.heap.size V w3 := HB2.out.trans (hB3.mono HB2.out.size)
      obtain ⟨h2, h3, h6, h7, h8, h9⟩ := HH.out
      have HR3 : Hid (BRw D cap w3 (pcL zs x)) := Lib.hid (HR.out.keep hB3.size (hB3.block D HR.out.1))
      obtain ⟨b2, T2, k1, k2, k3, k4, k5, k6, k7, k8⟩ := gi_base HBT.out h2 hBV3 (by omega) HD.out hp
      have hL9 : (ls ++ pre.map (pcL zs)).length + 1 ≤ 100000 := by
        have := HN2.out
        have := HSP.out
        simp
        omega
      obtain ⟨N9, hN9⟩ : ∃ N9, (ls ++ pre.map (pcL zs)).length = N9 := ⟨_, rfl⟩
      rw [hN9] at hL9
      refine step_app_vz tyBs rfl (.tmp 18) (.tmp 21) rfl b2 v' N9 vals' (by simp [Act.eval, Act.put]) (by rw [← hN9]; exact T2.out) ⟨w2.heap.size, 0, none⟩ 1 1 [.slice (some ⟨D, 0, none⟩) M0 cap] (by simp [Act.eval, Act.put]) rfl (fun j u hj => by
        have hj0 : j = 0 := by have := (List.getElem?_eq_some_iff.1 hj).1; simpa using this
        subst hj0
        obtain rfl : _ = u := by simpa using hj
        exact hc3) (by simp [Value.oneCell']) (by omega) ?_
      intro v3 w4 hV hnn
      obtain ⟨u1, u2, u3, u4⟩ := gi_step (o0 := o0) HBT.out hp h3 h4 (by omega) h6 h7 h8 h9 hBV3 HD.out HR3.out T2 k1 k2 k3 k4 k5 k6 k7 k8 HN2.out HN3.out HSP.out (by rw [HLEN.out]; have := HX.out; omega) (by rw [HLEN.out, hN9]; exact hV)
      obtain ⟨-, -, ⟨A3, c3, rfl, -⟩, -⟩ := hV
      have U4 := Lib.hid u4
      clear u4 hnn T2 k1 k2 k3 k4 k5 k6 k7 k8 h2 h3 h6 h7 h8 h9 hBV3 hB3 hc3 hw3 hAL hnew hL9 hN9
      refine hK2.out _ _ (u3) (fun hHeld2 => ?_)
      clear hK2 K2 hHeld
      have hHeld := hHeld2
      clear hHeld2
      try simp (maxSteps := 4000000) only [Act.put, List.setIfInBounds_toArray, List.set_cons_zero, List.set_cons_succ]
      refine wpAnyH_take (i := 9) (v := ?_) rfl (by kernel_rfl) (by kernel_rfl) (by kernel_rfl) (fun _ _ _ h => h) (Or.inl ⟨by kernel_rfl, ?_⟩) (by assumption) ?_
      rotate_left
      · (intro w hSw; (try dsimp only at hSw); go_simp)
        try (with_reducible rfl)
      rotate_left
      try simp (maxSteps := 4000000) only [Act.put, List.setIfInBounds_toArray, List.set_cons_zero, List.set_cons_succ, List.getElem_toArray, List.getElem_cons_zero, List.getElem_cons_succ]
      refine wpAnyH_take (i := 10) (v := ?_) rfl (by kernel_rfl) (by kernel_rfl) (by kernel_rfl) (fun _ _ _ h => h) (Or.inl ⟨by kernel_rfl, ?_⟩) (by assumption) ?_
      rotate_left
      · (intro w hSw; (try dsimp only at hSw); go_simp)
        try (with_reducible rfl)
      rotate_left
      try simp (maxSteps := 4000000) only [Act.put, List.setIfInBounds_toArray, List.set_cons_zero, List.set_cons_succ, List.getElem_toArray, List.getElem_cons_zero, List.getElem_cons_succ]
      refine wpAnyH_ready (rs := [11]) (by kernel_rfl) (by simp) ?_
      refine AllReadyH.cons rfl (fun K2 hK2 => ?_) AllReadyH.nil
      go_simp
      refine hK2.out _ _ ((U4.out _ rfl rfl rfl rfl).1) (fun hHeld2 => ?_)
      clear hK2 K2 hHeld
      have hHeld := hHeld2
      clear hHeld2
      try simp (maxSteps := 4000000) only [Act.put, List.setIfInBounds_toArray, List.set_cons_zero, List.set_cons_succ]
      refine wpAnyH_done (by kernel_rfl) ?_ _
      gi_wp2
      exact (U4.out _ rfl rfl rfl rfl).2
    · have hs9 : ∀ i, i < M0 → V.drew.cell? ⟨b0, (o0 + S0) + i, none⟩ = some (.int .i64 ((zs[S0 + i]?).getD 0)) := fun i hi => HSRC.out i hi
      with_reducible refine Calls.mono (iclone V.drew b0 (o0 + S0) M0 M0 (fun i => (zs[S0 + i]?).getD 0) hs9 hM1 hM2) ?_
      rintro e w2 ⟨D, cap, rfl, hD1, hD2, hD3⟩
      have hD3' : Below V.heap.size V w2 := ((Below.refl _ V).drew).trans hD3
      have HR : Hid (BRw D cap w2 (pcL zs x)) := Lib.hid (by rw [← HPC.out]; exact hD2)
      have HD : Hid (V.heap.size ≤ D) := Lib.hid hD1
      have HB2 := Lib.hid hD3'
      have e1 : w2.cell? ⟨p, 1, none⟩ = some v' := (hD3'.cell (p := ⟨p, 1, none⟩) hpV).trans d1
      have e2 : w2.cell? ⟨W.heap.size, 0, none⟩ = some (.pointer (some ⟨p, 0, none⟩)) := (hD3'.cell (p := ⟨W.heap.size, 0, none⟩) hbx).trans h4
      clear hD1 hD2 hD3 hD3' hs9
      refine hK2.out _ _ (e2) (fun hHeld2 => ?_)
      clear hK2 K2 hHeld
      have hHeld := hHeld2
      clear hHeld2
      try simp (maxSteps := 4000000) only [Act.put, List.setIfInBounds_toArray, List.set_cons_zero, List.set_cons_succ]
      refine wpAnyH_ready (rs := [4, 7]) (by kernel_rfl) (by simp) ?_
      refine AllReadyH.cons rfl (fun K2 hK2 => ?_) (AllReadyH.cons rfl (fun K2 hK2 => ?_) AllReadyH.nil)
      all_goals go_simp
      · refine hK2.out _ _ (hHeld) (fun hHeld2 => ?_)
        clear hK2 K2 hHeld
        have hHeld := hHeld2
        clear hHeld2
        try simp (maxSteps := 4000000) only [Act.put, List.setIfInBounds_toArray, List.set_cons_zero, List.set_cons_succ]
        refine wpAnyH_ready (rs := [7]) (by kernel_rfl) (by simp) ?_
        refine AllReadyH.cons rfl (fun K2 hK2 => ?_) AllReadyH.nil
        go_simp
        refine hK2.out _ _ (((alc0 _ _).cell (p := ⟨W.heap.size, 0, none⟩) (World.block_lt_of_cell? _ _ e2)).trans e2) (fun hHeld2 => ?_)
        clear hK2 K2 hHeld
        have hHeld := hHeld2
        clear hHeld2
        try simp (maxSteps := 4000000) only [Act.put, List.setIfInBounds_toArray, List.set_cons_zero, List.set_cons_succ]
        refine wpAnyH_ready (rs := [8]) (by kernel_rfl) (by simp) ?_
        refine AllReadyH.cons rfl (fun K2 hK2 => ?_) AllReadyH.nil
        have hAL : ∀ T, Below w2.heap.size w2 (w2.alloc (.cells #[.slice (some ⟨D, 0, none⟩) M0 cap] T)) := fun T => alc0 _ _
        have hnew : ∀ T, (w2.alloc (.cells #[.slice (some ⟨D, 0, none⟩) M0 cap] T)).cell? ⟨w2.heap.size, 0, none⟩ = some (.slice (some ⟨D, 0, none⟩) M0 cap) := fun T => by simp
        obtain ⟨w3, hw3⟩ : ∃ w3, w2.alloc (.cells #[.slice (some ⟨D, 0, none⟩) M0 cap] 26) = w3 := ⟨_, rfl⟩
        have hB3 := hAL 26
        have hc3 := hnew 26
        rw [hw3] at hB3 hc3 ⊢
        have hBV3 : Below V.heap.size V w3 := HB2.out.trans (hB3.mono HB2.out.size)
        obtain ⟨h2, h3, h6, h7, h8, h9⟩ := HH.out
        have HR3 : Hid (BRw D cap w3 (pcL zs x)) := Lib.hid (HR.out.keep hB3.size (hB3.block D HR.out.1))
        obtain ⟨b2, T2, k1, k2, k3, k4, k5, k6, k7, k8⟩ := gi_base HBT.out h2 hBV3 (by omega) HD.out hp
        have hL9 : (ls ++ pre.map (pcL zs)).length + 1 ≤ 100000 := by
          have := HN2.out
          have := HSP.out
          simp
          omega
        obtain ⟨N9, hN9⟩ : ∃ N9, (ls ++ pre.map (pcL zs)).length = N9 := ⟨_, rfl⟩
        rw [hN9] at hL9
        refine step_app_vz tyBs rfl (.tmp 18) (.tmp 21) rfl b2 v' N9 vals' (by simp [Act.eval, Act.put]) (by rw [← hN9]; exact T2.out) ⟨w2.heap.size, 0, none⟩ 1 1 [.slice (some ⟨D, 0, none⟩) M0 cap] (by simp [Act.eval, Act.put]) rfl (fun j u hj => by
          have hj0 : j = 0 := by have := (List.getElem?_eq_some_iff.1 hj).1; simpa using this
          subst hj0
          obtain rfl : _ = u := by simpa using hj
          exact hc3) (by simp [Value.oneCell']) (by omega) ?_
        intro v3 w4 hV hnn
        obtain ⟨u1, u2, u3, u4⟩ := gi_step (o0 := o0) HBT.out hp h3 h4 (by omega) h6 h7 h8 h9 hBV3 HD.out HR3.out T2 k1 k2 k3 k4 k5 k6 k7 k8 HN2.out HN3.out HSP.out (by rw [HLEN.out]; have := HX.out; omega) (by rw [HLEN.out, hN9]; exact hV)
        obtain ⟨-, -, ⟨A3, c3, rfl, -⟩, -⟩ := hV
        have U4 := Lib.hid u4
        clear u4 hnn T2 k1 k2 k3 k4 k5 k6 k7 k8 h2 h3 h6 h7 h8 h9 hBV3 hB3 hc3 hw3 hAL hnew hL9 hN9
        refine hK2.out _ _ (u3) (fun hHeld2 => ?_)
        clear hK2 K2 hHeld
        have hHeld := hHeld2
        clear hHeld2
        try simp (maxSteps := 4000000) only [Act.put, List.setIfInBounds_toArray, List.set_cons_zero, List.set_cons_succ]
        refine wpAnyH_take (i := 9) (v := ?_) rfl (by kernel_rfl) (by kernel_rfl) (by kernel_rfl) (fun _ _ _ h => h) (Or.inl ⟨by kernel_rfl, ?_⟩) (by assumption) ?_
        rotate_left
        · (intro w hSw; (try dsimp only at hSw); go_simp)
          try (with_reducible rfl)
        rotate_left
        try simp (maxSteps := 4000000) only [Act.put, List.setIfInBounds_toArray, List.set_cons_zero, List.set_cons_succ, List.getElem_toArray, List.getElem_cons_zero, List.getElem_cons_succ]
        refine wpAnyH_take (i := 10) (v := ?_) rfl (by kernel_rfl) (by kernel_rfl) (by kernel_rfl) (fun _ _ _ h => h) (Or.inl ⟨by kernel_rfl, ?_⟩) (by assumption) ?_
        rotate_left
        · (intro w hSw; (try dsimp only at hSw); go_simp)
          try (with_reducible rfl)
        rotate_left
        try simp (maxSteps := 4000000) only [Act.put, List.setIfInBounds_toArray, List.set_cons_zero, List.set_cons_succ, List.getElem_toArray, List.getElem_cons_zero, List.getElem_cons_succ]
        refine wpAnyH_ready (rs := [11]) (by kernel_rfl) (by simp) ?_
        refine AllReadyH.cons rfl (fun K2 hK2 => ?_) AllReadyH.nil
        go_simp
        refine hK2.out _ _ ((U4.out _ rfl rfl rfl rfl).1) (fun hHeld2 => ?_)
        clear hK2 K2 hHeld
        have hHeld := hHeld2
        clear hHeld2
        try simp (maxSteps := 4000000) only [Act.put, List.setIfInBounds_toArray, List.set_cons_zero, List.set_cons_succ]
        refine wpAnyH_done (by kernel_rfl) ?_ _
        gi_wp2
        exact (U4.out _ rfl rfl rfl rfl).2
      · have e1a : (w2.alloc (.cells #[.slice (some ⟨D, 0, none⟩) M0 cap] 26)).cell? ⟨p, 1, none⟩ = some v' := ((alc0 w2 _).cell (p := ⟨p, 1, none⟩) (World.block_lt_of_cell? _ _ e1)).trans e1
        refine hK2.out _ _ (((alc0 _ _).cell (p := ⟨W.heap.size, 0, none⟩) (World.block_lt_of_cell? _ _ e2)).trans e2) (fun hHeld2 => ?_)
        clear hK2 K2 hHeld
        have hHeld := hHeld2
        clear hHeld2
        try simp (maxSteps := 4000000) only [Act.put, List.setIfInBounds_toArray, List.set_cons_zero, List.set_cons_succ]
        refine wpAnyH_ready (rs := [4]) (by kernel_rfl) (by simp) ?_
        refine AllReadyH.cons rfl (fun K2 hK2 => ?_) AllReadyH.nil
        go_simp
        refine hK2.out _ _ (hHeld) (fun hHeld2 => ?_)
        clear hK2 K2 hHeld
        have hHeld := hHeld2
        clear hHeld2
        try simp (maxSteps := 4000000) only [Act.put, List.setIfInBounds_toArray, List.set_cons_zero, List.set_cons_succ]
        refine wpAnyH_ready (rs := [8]) (by kernel_rfl) (by simp) ?_
        refine AllReadyH.cons rfl (fun K2 hK2 => ?_) AllReadyH.nil
        have hAL : ∀ T, Below w2.heap.size w2 (w2.alloc (.cells #[.slice (some ⟨D, 0, none⟩) M0 cap] T)) := fun T => alc0 _ _
        have hnew : ∀ T, (w2.alloc (.cells #[.slice (some ⟨D, 0, none⟩) M0 cap] T)).cell? ⟨w2.heap.size, 0, none⟩ = some (.slice (some ⟨D, 0, none⟩) M0 cap) := fun T => by simp
        obtain ⟨w3, hw3⟩ : ∃ w3, w2.alloc (.cells #[.slice (some ⟨D, 0, none⟩) M0 cap] 26) = w3 := ⟨_, rfl⟩
        have hB3 := hAL 26
        have hc3 := hnew 26
        rw [hw3] at hB3 hc3 ⊢
        have hBV3 : Below V.heap.size V w3 := HB2.out.trans (hB3.mono HB2.out.size)
        obtain ⟨h2, h3, h6, h7, h8, h9⟩ := HH.out
        have HR3 : Hid (BRw D cap w3 (pcL zs x)) := Lib.hid (HR.out.keep hB3.size (hB3.block D HR.out.1))
        obtain ⟨b2, T2, k1, k2, k3, k4, k5, k6, k7, k8⟩ := gi_base HBT.out h2 hBV3 (by omega) HD.out hp
        have hL9 : (ls ++ pre.map (pcL zs)).length + 1 ≤ 100000 := by
          have := HN2.out
          have := HSP.out
          simp
          omega
        obtain ⟨N9, hN9⟩ : ∃ N9, (ls ++ pre.map (pcL zs)).length = N9 := ⟨_, rfl⟩
        rw [hN9] at hL9
        refine step_app_vz tyBs rfl (.tmp 18) (.tmp 21) rfl b2 v' N9 vals' (by simp [Act.eval, Act.put]) (by rw [← hN9]; exact T2.out) ⟨w2.heap.size, 0, none⟩ 1 1 [.slice (some ⟨D, 0, none⟩) M0 cap] (by simp [Act.eval, Act.put]) rfl (fun j u hj => by
          have hj0 : j = 0 := by have := (List.getElem?_eq_some_iff.1 hj).1; simpa using this
          subst hj0
          obtain rfl : _ = u := by simpa using hj
          exact hc3) (by simp [Value.oneCell']) (by omega) ?_
        intro v3 w4 hV hnn
        obtain ⟨u1, u2, u3, u4⟩ := gi_step (o0 := o0) HBT.out hp h3 h4 (by omega) h6 h7 h8 h9 hBV3 HD.out HR3.out T2 k1 k2 k3 k4 k5 k6 k7 k8 HN2.out HN3.out HSP.out (by rw [HLEN.out]; have := HX.out; omega) (by rw [HLEN.out, hN9]; exact hV)
        obtain ⟨-, -, ⟨A3, c3, rfl, -⟩, -⟩ := hV
        have U4 := Lib.hid u4
        clear u4 hnn T2 k1 k2 k3 k4 k5 k6 k7 k8 h2 h3 h6 h7 h8 h9 hBV3 hB3 hc3 hw3 hAL hnew hL9 hN9
        refine hK2.out _ _ (u3) (fun hHeld2 => ?_)
        clear hK2 K2 hHeld
        have hHeld := hHeld2
        clear hHeld2
        try simp (maxSteps := 4000000) only [Act.put, List.setIfInBounds_toArray, List.set_cons_zero, List.set_cons_succ]
        refine wpAnyH_take (i := 9) (v := ?_) rfl (by kernel_rfl) (by kernel_rfl) (by kernel_rfl) (fun _ _ _ h => h) (Or.inl ⟨by kernel_rfl, ?_⟩) (by assumption) ?_
        rotate_left
        · (intro w hSw; (try dsimp only at hSw); go_simp)
          try (with_reducible rfl)
        rotate_left
        try simp (maxSteps := 4000000) only [Act.put, List.setIfInBounds_toArray, List.set_cons_zero, List.set_cons_succ, List.getElem_toArray, List.getElem_cons_zero, List.getElem_cons_succ]
        refine wpAnyH_take (i := 10) (v := ?_) rfl (by kernel_rfl) (by kernel_rfl) (by kernel_rfl) (fun _ _ _ h => h) (Or.inl ⟨by kernel_rfl, ?_⟩) (by assumption) ?_
        rotate_left
        · (intro w hSw; (try dsimp only at hSw); go_simp)
          try (with_reducible rfl)
        rotate_left
        try simp (maxSteps := 4000000) only [Act.put, List.setIfInBounds_toArray, List.set_cons_zero, List.set_cons_succ, List.getElem_toArray, List.getElem_cons_zero, List.getElem_cons_succ]
        refine wpAnyH_ready (rs := [11]) (by kernel_rfl) (by simp) ?_
        refine AllReadyH.cons rfl (fun K2 hK2 => ?_) AllReadyH.nil
        go_simp
        refine hK2.out _ _ ((U4.out _ rfl rfl rfl rfl).1) (fun hHeld2 => ?_)
        clear hK2 K2 hHeld
        have hHeld := hHeld2
        clear hHeld2
        try simp (maxSteps := 4000000) only [Act.put, List.setIfInBounds_toArray, List.set_cons_zero, List.set_cons_succ]
        refine wpAnyH_done (by kernel_rfl) ?_ _
        gi_wp2
        exact (U4.out _ rfl rfl rfl rfl).2
  case done =>
    intro D ys V hD hS hI hK
    have hI2 := gi_own p sz W n b gs zs ls W.heap.size (Nat.le_refl _) ys V _ (some D) hI (grownBy_putObj' V D (.deferred none)) (fun r e => by cases e; exact ⟨by omega, _, hK, rfl⟩)
    gi_wp2
    refine ⟨by simp, .inl ⟨_, _, rfl, run_takeDeferred hK, ?_⟩⟩
    refine ⟨_, results_none rfl _ _ _, rfl, ?_⟩
    obtain ⟨h1, h2, h3, h4, h5, h6, h7⟩ := hI2
    rw [chS_eq HZN.out hbig.1 hS] at h1
    exact ⟨h1, by omega, h4, h5, h6, h7⟩
end Go.Proofs.Ytokdjonnblbegaa
