/- Contracts of package shelf: New, Len, List, Pages. -/
import Derived.Test.YtjblgamngnnccaaVz
import Derived.Lib.SliceRun
import Derived.WalkKit
import Derived.ProofKit
import Derived.OpenShut
import Derived.Deep.LoopGhost
namespace Go.Proofs.Ytjblgamngnnccaa
open Go.RowKit
set_option linter.unusedVariables false
set_option linter.unusedSimpArgs false

abbrev Ar := Int × Int
def enc2 (p : Ar) : List Value := [.int .i64 p.1, .int .i64 p.2]
theorem enc2_len (p : Ar) : (enc2 p).length = 2 := rfl
theorem enc2_one (ms : List Ar) : ∀ u ∈ ms.flatMap enc2, u.oneCell' = true := by
  intro u hu
  obtain ⟨p, _, h⟩ := List.mem_flatMap.1 hu
  simp only [enc2, List.mem_cons, List.not_mem_nil, or_false] at h
  rcases h with rfl | rfl <;> rfl
theorem tyArea : TyOK 50 47 2 16 (.agg #[.int .i64 0, .int .i64 0]) := ⟨Try.underlying47, by kernel_rfl, rfl, by decide, by decide⟩
/-- A slice of areas. -/
abbrev VA (b : Nat) (W : World) (v : Value) (ms : List Ar) : Prop := VZ 2 b W v ms.length (ms.flatMap enc2)
theorem va_open {b : Nat} {W : World} {v : Value} {ms : List Ar} (h : VA b W v ms) :
    (v = .slice none 0 0 ∧ ms = []) ∨ ∃ off c, v = .slice (some ⟨b, off, none⟩) ms.length c ∧ b < W.heap.size ∧ ms.length ≤ c ∧ c ≤ 9223372036854775807 ∧ ∀ i p, ms[i]? = some p → W.cell? ⟨b, off + i * 2, none⟩ = some (.int .i64 p.1) ∧ W.cell? ⟨b, off + i * 2 + 1, none⟩ = some (.int .i64 p.2) := by
  obtain ⟨A, c, rfl, h1, h2, h3, h4, ⟨rfl, h5, rfl⟩ | ⟨off, rfl, hl, hc, hsp⟩⟩ := h
  · obtain rfl := List.length_eq_zero_iff.1 h5
    exact .inl ⟨rfl, rfl⟩
  · refine .inr ⟨off, c, rfl, hl, h2, h3, fun i p hp => ⟨?_, ?_⟩⟩
    · have := hc (i * 2 + 0) (.int .i64 p.1) (by rw [flat_get enc2 2 enc2_len ms i 0 (by decide) p hp]; rfl)
      simpa using this
    · have := hc (i * 2 + 1) (.int .i64 p.2) (by rw [flat_get enc2 2 enc2_len ms i 1 (by decide) p hp]; rfl)
      rwa [← Nat.add_assoc] at this
theorem va_nil (b b' : Nat) {W W' : World} {v : Value} (h : VA b W v []) (hv : v = .slice none 0 0) : VA b' W' v [] := by subst hv; exact vz_nil 2 b' W'
def CloneA (W : World) (ms : List Ar) (e : Ending) (w' : World) : Prop :=
  ∃ b v, e = .returned v ∧ W.heap.size ≤ b ∧ VA b w' v ms ∧ Below W.heap.size W w'
theorem clone_area (b : Nat) (v : Value) (ms : List Ar) (W : World) (h : VA b W v ms) (hn : ms.length ≤ 1000) :
    Calls Try.prog 38 #[v] W (CloneA W ms) := by
  have q : ∀ (w : World) (a : Option Addr) (n c n' c' : Nat), (binOp .eql 47 (.slice a n c) (.slice none n' c')).run Try.prog w = .ok (.bool a.isNone) w := fun w a n c n' c' => Lib.run_eql_slice_nil w _ _ a n c n' c' Try.underlying47
  obtain ⟨A, c, rfl, h1, h2, h3, h4, ⟨rfl, h5, rfl⟩ | ⟨off, rfl, hl, hc, hsp⟩⟩ := h
  · obtain rfl := List.length_eq_zero_iff.1 h5
    go_enter Try.func38, Try.ntmps38
    go_wp2
    go_ret
    exact ⟨W.heap.size, _, rfl, Nat.le_refl _, vz_nil _ _ _, Below.refl _ _⟩
  · have HC := Lib.hid hc
    clear hc hsp
    go_enter Try.func38, Try.ntmps38
    go_wp2_with (at_builtin; refine app_vz tyArea rfl _ _ rfl W.heap.size (.slice (some ⟨W.heap.size, 0, none⟩) 0 0) 0 [] rfl (vz_made 2 W _) ⟨b, off, none⟩ ms.length c (ms.flatMap enc2) rfl h1 ?qc1 h4 (.inr (by simp)) (by omega) ?_)
    case qc1 =>
      intro j u hj
      rw [addp]
      exact Lib.cell?_alloc_some _ (HC.out j u hj)
    rintro v' w1 ⟨b', hb', hv, hs, ho, hbel⟩
    go_wp2
    go_ret
    refine ⟨b', v', rfl, ?_, by simpa using hv, ?_⟩
    · rcases hb' with rfl | h
      · exact Nat.le_refl _
      · simp at h; omega
    · exact (alc0 W _).trans (hbel _ (Nat.le_refl _) (by simp))
/-- A shelf at block g: room for k, the areas ms in block b. -/
def ShB (g b : Nat) (W : World) (k : Int) (ms : List Ar) : Prop :=
  g < W.heap.size ∧ b ≠ g ∧ (∀ o, W.frozen? ⟨g, o, none⟩ = false) ∧ W.cell? ⟨g, 0, none⟩ = some (.int .i64 k) ∧ ∃ v, W.cell? ⟨g, 1, none⟩ = some v ∧ VA b W v ms
theorem ShB.keep {g b : Nat} {W W' : World} {k : Int} {ms : List Ar} (h : ShB g b W k ms) (hs : W.heap.size ≤ W'.heap.size) (hg : W'.heap[g]? = W.heap[g]?) (hb : b < W.heap.size → W'.heap[b]? = W.heap[b]?) : ShB g b W' k ms := by
  obtain ⟨h1, h2, h3, h4, v, h5, h6⟩ := h
  exact ⟨Nat.lt_of_lt_of_le h1 hs, h2, fun o => (World.frozen?_of_block hg).trans (h3 o), (World.cell?_of_block hg).trans h4, v, (World.cell?_of_block hg).trans h5, h6.keep hs hb⟩
theorem ShB.below {g b : Nat} {W W' : World} {k : Int} {ms : List Ar} (h : ShB g b W k ms) (hb : Below W.heap.size W W') : ShB g b W' k ms := h.keep hb.size (hb.block g h.1) (hb.block b)
/-- All but block g and block b stands as it was. -/
def Fr (g b : Nat) (W w' : World) : Prop :=
  W.heap.size ≤ w'.heap.size ∧ (∀ i, i < W.heap.size → i ≠ g → i ≠ b → w'.heap[i]? = W.heap[i]?) ∧ ∀ L, L ≤ g → L ≤ b → L ≤ W.heap.size → Below L W w'
theorem Fr.of_below {g b : Nat} {W w' : World} (h : Below W.heap.size W w') : Fr g b W w' := ⟨h.size, fun i hi _ _ => h.block i hi, fun L _ _ hL => h.mono hL⟩
theorem Fr.trans {g b b' : Nat} {W w1 w2 : World} (h : Fr g b W w1) (k : Fr g b' w1 w2) (hb : b' = b ∨ W.heap.size ≤ b') : Fr g b W w2 := by
  obtain ⟨s1, o1, l1⟩ := h
  obtain ⟨s2, o2, l2⟩ := k
  refine ⟨Nat.le_trans s1 s2, fun i hi hg hb' => ?_, fun L hg hb' hL => (l1 L hg hb' hL).trans (l2 L hg ?_ (Nat.le_trans hL s1))⟩
  · rw [o2 i (Nat.lt_of_lt_of_le hi s1) hg (by rcases hb with rfl | h; exact hb'; omega), o1 i hi hg hb']
  · rcases hb with rfl | h; exact hb'; omega
theorem Fr.set {g b : Nat} {W w1 : World} (h : Fr g b W w1) (o : Nat) (v : Value) : Fr g b W (w1.setCell ⟨g, o, none⟩ v) :=
  ⟨by rw [size_set]; exact h.1, fun i hi hg hb => by rw [heap_other _ g o v i hg]; exact h.2.1 i hi hg hb, fun L hg hb hL => (h.2.2 L hg hb hL).setCell hg _⟩
theorem Fr.alc {g b : Nat} {W w1 : World} (h : Fr g b W w1) (o : Obj) : Fr g b W (w1.alloc o) :=
  ⟨by simp; have := h.1; omega, fun i hi hg hb => by rw [Below.heap_alloc _ _ _ (Nat.lt_of_lt_of_le hi h.1)]; exact h.2.1 i hi hg hb, fun L hg hb hL => (h.2.2 L hg hb hL).alloc (Nat.le_trans hL h.1) _⟩
def SNew (W : World) (k : Int) (e : Ending) (w' : World) : Prop :=
  e = .returned (.pointer (some ⟨W.heap.size, 0, none⟩)) ∧ (∀ b, b ≠ W.heap.size → ShB W.heap.size b w' k []) ∧ Below W.heap.size W w' ∧ w'.heap.size = W.heap.size + 1
theorem snew_any (m k : Int) (W : World) (hk : k = min (max m 0) 16) : Calls Try.prog 18 #[.int .i64 m] W (SNew W k) := by
  have hk2 : (m ≤ 0 ∧ k = 0) ∨ (0 < m ∧ m ≤ 16 ∧ k = m) ∨ (16 < m ∧ k = 16) := by omega
  clear hk
  rcases hk2 with ⟨h1, rfl⟩ | ⟨h1, h2, rfl⟩ | ⟨h1, rfl⟩
  all_goals
    go_enter Try.func18, Try.ntmps18
    go_wp2
    all_goals
      first
        | (go_ret
           refine ⟨rfl, fun b hb => ⟨by simp, hb, fun o => by simp, ?_, .slice none 0 0, by simp, vz_nil _ _ _⟩, alc0 _ _, by simp⟩
           first
             | (simp; done)
             | (simp; omega))
        | (exfalso; omega)
theorem slen_any (g b : Nat) (k : Int) (ms : List Ar) (W : World) (h : ShB g b W k ms) :
    Calls Try.prog 23 #[.pointer (some ⟨g, 0, none⟩)] W fun e w' => e = .returned (.int .i64 ms.length) ∧ W = w' := by
  obtain ⟨h1, h2, h3, h4, v, h5, h6⟩ := h
  rcases va_open h6 with ⟨rfl, rfl⟩ | ⟨off, c, rfl, h7, h8, h9, h10⟩
  · clear h6
    go_enter Try.func23, Try.ntmps23
    go_wp2
    go_ret
    exact ⟨rfl, rfl⟩
  · clear h6 h10
    go_enter Try.func23, Try.ntmps23
    go_wp2
    go_ret
    exact ⟨rfl, rfl⟩
theorem nslen (W : World) : Calls Try.prog 23 #[.pointer none] W fun e w' => e = .returned (.int .i64 0) ∧ W = w' := by
  go_enter Try.func23, Try.ntmps23
  go_wp2
  go_ret
  exact ⟨rfl, rfl⟩
theorem slist_any (g b : Nat) (k : Int) (ms : List Ar) (W : World) (h : ShB g b W k ms) (hn : ms.length ≤ 1000) :
    Calls Try.prog 22 #[.pointer (some ⟨g, 0, none⟩)] W (CloneA W ms) := by
  obtain ⟨h1, h2, h3, h4, v, h5, h6⟩ := h
  have H := Lib.hid h6
  clear h6
  go_enter Try.func22, Try.ntmps22
  go_wp2_with fail
  refine (clone_area _ _ _ _ H.out hn).mono ?_
  rintro e w1 ⟨b', v', rfl, h7, h8, h9⟩
  have H8 := Lib.hid h8
  clear h8
  go_wp2
  go_ret
  exact ⟨b', v', rfl, h7, H8.out, h9⟩
theorem nslist (W : World) : Calls Try.prog 22 #[.pointer none] W fun e w' => e = .returned (.slice none 0 0) ∧ W = w' := by
  go_enter Try.func22, Try.ntmps22
  go_wp2
  go_ret
  exact ⟨rfl, rfl⟩
def sumP : List Ar → Int
  | [] => 0
  | p :: r => p.2 + sumP r
theorem sumP_snoc (l : List Ar) (p : Ar) : sumP (l ++ [p]) = sumP l + p.2 := by
  induction l with
  | nil => simp [sumP]
  | cons a l ih => simp only [List.cons_append, sumP, ih]; omega
theorem sumP_bd : ∀ (l : List Ar), (∀ p ∈ l, 0 ≤ p.2 ∧ p.2 ≤ 1000) → 0 ≤ sumP l ∧ sumP l ≤ 1000 * l.length
  | [], _ => by simp [sumP]
  | x :: r, h => by
    have h1 := sumP_bd r (fun z hz => h z (by simp [hz]))
    have h2 := h x (by simp)
    simp only [sumP, List.length_cons]
    omega
theorem sumP_take (l : List Ar) (i : Nat) (p : Ar) (h : l[i]? = some p) : sumP (l.take (i + 1)) = sumP (l.take i) + p.2 := by
  rw [List.take_add_one, h]
  exact sumP_snoc _ _
end Go.Proofs.Ytjblgamngnnccaa
