/- Slices of large chunks (four integers each). -/
import Derived.Test.YtohamecjiidjdaaVz
import Derived.Lib.SliceRun
import Derived.WalkKit
import Derived.ProofKit
import Derived.OpenShut
import Derived.Deep.RegionLaw
import Derived.RegionTactic
import Derived.ChangeAlike
import Derived.BigRegion
namespace Go.Proofs.Ytohamecjiidjdaa
open Go.RowKit
set_option linter.unusedVariables false
set_option linter.unusedSimpArgs false

structure La where
  at_ : Int
  first : Int
  pages : Int
  room : Int
def enc4 (p : La) : List Value := [.int .i64 p.at_, .int .i64 p.first, .int .i64 p.pages, .int .i64 p.room]
theorem enc4_len (p : La) : (enc4 p).length = 4 := rfl
theorem enc4_one (ms : List La) : ∀ u ∈ ms.flatMap enc4, u.oneCell' = true := by
  intro u hu
  obtain ⟨p, _, h⟩ := List.mem_flatMap.1 hu
  simp only [enc4, List.mem_cons, List.not_mem_nil, or_false] at h
  rcases h with rfl | rfl | rfl | rfl <;> rfl
theorem tyLarge : TyOK 50 46 4 32 (.agg #[.int .i64 0, .int .i64 0, .int .i64 0, .int .i64 0]) := ⟨Try.underlying46, by kernel_rfl, rfl, by decide, by decide⟩
/-- A slice of items. -/
abbrev V4 (b : Nat) (W : World) (v : Value) (ms : List La) : Prop := VZ 4 b W v ms.length (ms.flatMap enc4)
theorem v4_open {b : Nat} {W : World} {v : Value} {ms : List La} (h : V4 b W v ms) :
    (v = .slice none 0 0 ∧ ms = []) ∨ ∃ off c, v = .slice (some ⟨b, off, none⟩) ms.length c ∧ b < W.heap.size ∧ ms.length ≤ c ∧ c ≤ 9223372036854775807 ∧
      ∀ i p, ms[i]? = some p → W.cell? ⟨b, off + i * 4, none⟩ = some (.int .i64 p.at_) ∧ W.cell? ⟨b, off + i * 4 + 1, none⟩ = some (.int .i64 p.first) ∧ W.cell? ⟨b, off + i * 4 + 2, none⟩ = some (.int .i64 p.pages) ∧ W.cell? ⟨b, off + i * 4 + 3, none⟩ = some (.int .i64 p.room) := by
  obtain ⟨A, c, rfl, h1, h2, h3, h4, ⟨rfl, h5, rfl⟩ | ⟨off, rfl, hl, hc, hsp⟩⟩ := h
  · obtain rfl := List.length_eq_zero_iff.1 h5
    exact .inl ⟨rfl, rfl⟩
  · refine .inr ⟨off, c, rfl, hl, h2, h3, fun i p hp => ?_⟩
    have key : ∀ j u, (enc4 p)[j]? = some u → j < 4 → W.cell? ⟨b, off + i * 4 + j, none⟩ = some u := fun j u hu hj => by
      have := hc (i * 4 + j) u (by rw [flat_get enc4 4 enc4_len ms i j hj p hp]; exact hu)
      rwa [← Nat.add_assoc] at this
    exact ⟨by simpa using key 0 _ rfl (by decide), key 1 _ rfl (by decide), key 2 _ rfl (by decide), key 3 _ rfl (by decide)⟩
def CloneL (W : World) (ms : List La) (e : Ending) (w' : World) : Prop :=
  ∃ b v, e = .returned v ∧ W.heap.size ≤ b ∧ V4 b w' v ms ∧ Below W.heap.size W w'
theorem clone_large (b : Nat) (v : Value) (ms : List La) (W : World) (h : V4 b W v ms) (hn : ms.length ≤ 1000) :
    Calls Try.prog 31 #[v] W (CloneL W ms) := by
  have q : ∀ (w : World) (a : Option Addr) (n c n' c' : Nat), (binOp .eql 46 (.slice a n c) (.slice none n' c')).run Try.prog w = .ok (.bool a.isNone) w := fun w a n c n' c' => Lib.run_eql_slice_nil w _ _ a n c n' c' Try.underlying46
  obtain ⟨A, c, rfl, h1, h2, h3, h4, ⟨rfl, h5, rfl⟩ | ⟨off, rfl, hl, hc, hsp⟩⟩ := h
  · obtain rfl := List.length_eq_zero_iff.1 h5
    go_enter Try.func31, Try.ntmps31
    go_wp2
    go_ret
    exact ⟨W.heap.size, _, rfl, Nat.le_refl _, vz_nil _ _ _, Below.refl _ _⟩
  · have HC := Lib.hid hc
    clear hc hsp
    go_enter Try.func31, Try.ntmps31
    go_wp2_with (at_builtin; refine app_vz tyLarge rfl _ _ rfl W.heap.size (.slice (some ⟨W.heap.size, 0, none⟩) 0 0) 0 [] rfl (vz_made 4 W _) ⟨b, off, none⟩ ms.length c (ms.flatMap enc4) rfl h1 ?qc1 h4 (.inr (by simp)) (by omega) ?_)
    case qc1 =>
      intro j u hj
      rw [addp]
      exact Lib.cell?_alloc_some _ (HC.out j u hj)
    rintro v' w1 ⟨b', hb', hv, hs, ho, hbel⟩
    go_wp2
    go_ret
    refine ⟨b', v', rfl, ?_, by simpa using hv, ?_⟩
    · rcases hb' with rfl | h
      · exact Nat.le_refl _
      · simp at h; omega
    · exact (alc0 W _).trans (hbel _ (Nat.le_refl _) (by simp))
theorem run_clear_any (w : World) (t e ty : TypeId) (z : Value) (ht : Try.prog.underlying t = some (.slice e)) (hv : ∀ w, (zeroValue e).run Try.prog w = .ok z w) (b o n c : Nat) (zs : List Value) (hzs : (Builtin.zeroCells z.cells n).toList = zs) (h1 : ∀ u ∈ zs, u.oneCell' = true) (hn : 0 < n)
    (hc : ∀ j, j < zs.length → (w.cell? ⟨b, o + j, none⟩).isSome = true) (hf : ∀ j, j < zs.length → w.frozen? ⟨b, o + j, none⟩ = false) :
    (Builtin.clear_ #[t] ty #[.slice (some ⟨b, o, none⟩) n c]).run Try.prog w = .ok (.tuple #[]) (w.setCells b o zs) := by
  have hst := run_storeCells_cells (P := Try.prog) b o zs 0 w (by simpa using hc) (by simpa using hf) h1
  simp only [Nat.add_zero] at hst
  obtain ⟨m, rfl⟩ : ∃ m, n = m + 1 := ⟨n - 1, by omega⟩
  simp [Builtin.clear_, run_underlying ht, hv, hzs, hst]
theorem setCells_other (b : Nat) (vs : List Value) (o : Nat) (w : World) (i : Nat) (h : i ≠ b) : (w.setCells b o vs).heap[i]? = w.heap[i]? := by
  induction vs generalizing o w with
  | nil => rfl
  | cons v r ih => rw [World.setCells, ih, heap_other _ _ _ _ _ h]
/-- Only block b changed, and not in its size. -/
def Fb (b : Nat) (W w' : World) : Prop := w'.heap.size = W.heap.size ∧ (∀ i, i ≠ b → w'.heap[i]? = W.heap[i]?) ∧ ∀ L, L ≤ b → L ≤ W.heap.size → Below L W w'
def DelL (b : Nat) (W : World) (ms : List La) (e : Ending) (w' : World) : Prop := ∃ v, e = .returned v ∧ V4 b w' v ms ∧ Fb b W w'
theorem flat_take {α : Type} (f : α → List Value) (sz : Nat) (hf : ∀ x, (f x).length = sz) (l : List α) (i : Nat) : (l.take i).flatMap f = (l.flatMap f).take (i * sz) := by
  induction l generalizing i with
  | nil => simp
  | cons p r ih =>
    cases i with
    | zero => simp
    | succ i =>
      have e : (f p).take ((i + 1) * sz) = f p := List.take_of_length_le (by rw [hf, Nat.add_mul]; omega)
      rw [List.take_succ_cons, List.flatMap_cons, List.flatMap_cons, ih, List.take_append, hf, e, show (i + 1) * sz - sz = i * sz by rw [Nat.add_mul]; omega]
theorem flat_drop {α : Type} (f : α → List Value) (sz : Nat) (hf : ∀ x, (f x).length = sz) (l : List α) (i : Nat) : (l.drop i).flatMap f = (l.flatMap f).drop (i * sz) := by
  induction l generalizing i with
  | nil => simp
  | cons p r ih =>
    cases i with
    | zero => simp
    | succ i =>
      have e : (f p).drop ((i + 1) * sz) = [] := List.drop_of_length_le (by rw [hf, Nat.add_mul]; omega)
      rw [List.drop_succ_cons, List.flatMap_cons, ih, List.drop_append, hf, e, show (i + 1) * sz - sz = i * sz by rw [Nat.add_mul]; omega, List.nil_append]
set_option maxHeartbeats 4000000 in
theorem del_large (b off c i j : Nat) (ms : List La) (W : World) (h : V4 b W (.slice (some ⟨b, off, none⟩) ms.length c) ms) (hi : i < ms.length) (hj : j = i + 1) (hsm : ms.length ≤ 1000) :
    Calls Try.prog 29 #[.slice (some ⟨b, off, none⟩) ms.length c, .int .i64 i, .int .i64 j] W (DelL b W (ms.eraseIdx i)) := by
  obtain ⟨i0, hi0, hz0, hz1, hz2⟩ := info_parts tyLarge.inf
  obtain ⟨A0, c0, e, hcl, hnc, hcM, h1, ⟨e0, _⟩ | ⟨off', e1, hb, hc, hsp⟩⟩ := h
  · injection e with e2 e3 e4
    rw [e0] at e2; cases e2
  · injection e with e2 e3 e4
    subst e4
    rw [e1] at e2
    injection e2 with e2
    injection e2 with _ e5
    subst e5
    obtain ⟨n, hn⟩ : ∃ n, ms.length = n := ⟨_, rfl⟩
    have herase : ms.eraseIdx i = ms.take i ++ ms.drop (i + 1) := List.eraseIdx_eq_take_drop_succ _ _
    have hflat : (ms.eraseIdx i).flatMap enc4 = (ms.flatMap enc4).take (i * 4) ++ (ms.flatMap enc4).drop (j * 4) := by
      rw [hj, herase, List.flatMap_append, flat_take enc4 4 enc4_len, flat_drop enc4 4 enc4_len]
    have hlen1 : (ms.eraseIdx i).length = n - 1 := by rw [List.length_eraseIdx_of_lt hi, hn]
    have h1' : ∀ u ∈ (ms.eraseIdx i).flatMap enc4, u.oneCell' = true := enc4_one _
    simp only [hn] at hcl hnc hi hsm ⊢
    generalize hcs : ms.flatMap enc4 = cs at *
    obtain ⟨news, hnews⟩ : ∃ news, cs.drop (j * 4) = news := ⟨_, rfl⟩
    rw [hnews] at hflat
    have hnl : news.length = (n - j) * 4 := by rw [← hnews, List.length_drop, hcl]; omega
    have hnat : ∀ t u, news[t]? = some u → W.cell? ⟨b, off + (j * 4 + t), none⟩ = some u := by
      intro t u hu
      rw [← hnews, List.getElem?_drop] at hu
      exact hc _ u hu
    obtain ⟨A, hA, hsrc⟩ : ∃ A : Addr, (if c = j then some (⟨b, off, none⟩ : Addr) else some ⟨b, off + j * 4, none⟩) = some A ∧ Hid (∀ t u, news[t]? = some u → W.drew.cell? (A.add t) = some u) := by
      by_cases h : c = j
      · refine ⟨⟨b, off, none⟩, by simp [h], fun t u hu => ?_⟩
        have h0 : news.length = 0 := by rw [hnl]; omega
        rw [List.length_eq_zero_iff.1 h0] at hu
        simp at hu
      · refine ⟨⟨b, off + j * 4, none⟩, by simp [h], fun t u hu => ?_⟩
        rw [addp, Nat.add_assoc]
        exact hnat t u hu
    have s1 : Hid (news.length = (n - j) * 4) := hnl
    have s2 : Hid (∀ u ∈ news, u.oneCell' = true) := fun u hu => h1 u (by rw [← hnews] at hu; exact List.mem_of_mem_drop hu)
    have s3 : Hid (∀ t, t < news.length → (W.drew.cell? ⟨b, off + i * 4 + t, none⟩).isSome = true ∧ W.drew.frozen? ⟨b, off + i * 4 + t, none⟩ = false) := by
      intro t ht
      rw [Nat.add_assoc]
      exact hsp (i * 4 + t) (by rw [hnl] at ht; omega)
    obtain ⟨W1, hW1⟩ : ∃ W1, W1 = W.drew.setCells b (off + i * 4) news := ⟨_, rfl⟩
    have hsp1 : ∀ k, k < c * 4 → (W1.cell? ⟨b, off + k, none⟩).isSome = true ∧ W1.frozen? ⟨b, off + k, none⟩ = false := fun k hk => by
      rw [hW1]
      exact ⟨World.isSome_setCells b _ _ _ _ (hsp k hk).1, by rw [World.frozen?_setCells]; exact (hsp k hk).2⟩
    have hcl2 : ∀ ty, (Builtin.clear_ #[46] ty #[.slice (some ⟨b, off + (i + (n - j)) * 4, none⟩) (n - (i + (n - j))) (c - (i + (n - j)))]).run Try.prog W1 = .ok (.tuple #[]) (W1.setCells b (off + (i + (n - j)) * 4) [.int .i64 0, .int .i64 0, .int .i64 0, .int .i64 0]) := fun ty => by
      have e : n - (i + (n - j)) = 1 := by omega
      rw [e]
      refine run_clear_any W1 _ _ ty _ Try.underlying46 Try.zeroValue50 b _ 1 _ _ (by kernel_rfl) (by simp [Value.oneCell']) (by decide) (fun j hj' => ?_) (fun j hj' => ?_)
      · rw [Nat.add_assoc]; exact (hsp1 _ (by simp at hj'; omega)).1
      · rw [Nat.add_assoc]; exact (hsp1 _ (by simp at hj'; omega)).2
    have hic : i ≤ c := by omega
    have hjc : j ≤ c := by omega
    have hij : i ≤ j := by omega
    have hjn : j ≤ n := by omega
    have hne : ¬ i = j := by omega
    have X : Hid (W1 = W.drew.setCells b (off + i * 4) news) := hW1
    have HF : Hid (DelL b W (ms.eraseIdx i) (.returned (.slice (some ⟨b, off, none⟩) (i + (n - j)) c)) (W1.setCells b (off + (i + (n - j)) * 4) [.int .i64 0, .int .i64 0, .int .i64 0, .int .i64 0])) := by
      have hlast : i + (n - j) = n - 1 := by omega
      rw [hlast]
      have hsz : (W1.setCells b (off + (n - 1) * 4) [.int .i64 0, .int .i64 0, .int .i64 0, .int .i64 0]).heap.size = W.heap.size := by rw [setCells_size, hW1, setCells_size]; rfl
      refine ⟨_, rfl, ?vz, hsz, fun k hk => ?_, fun L hL hL2 => ?_⟩
      case vz =>
        show VZ 4 b _ _ (ms.eraseIdx i).length _
        rw [hlen1]
        refine ⟨_, c, rfl, ?_, ?_, hcM, h1', .inr ⟨off, rfl, ?_, ?_, fun k hk => ?_⟩⟩
        · rw [hflat, List.length_append, List.length_take, hnl, hcl]; omega
        · omega
        · rw [hsz]; exact hb
        · intro k u hu
          have hk : k < (n - 1) * 4 := by
            have := (List.getElem?_eq_some_iff.1 hu).1
            rw [hflat, List.length_append, List.length_take, hnl, hcl] at this; omega
          rw [World.cell?_setCells_out b _ _ W1 ⟨b, off + k, none⟩ (fun _ _ => by simp; omega), hW1]
          rw [hflat] at hu
          by_cases hlt : k < i * 4
          · rw [World.cell?_setCells_out b _ _ _ ⟨b, off + k, none⟩ (fun _ _ => by simp; omega)]
            rw [List.getElem?_append_left (by rw [List.length_take, hcl]; omega), List.getElem?_take_of_lt hlt] at hu
            exact hc k u hu
          · have htl : (cs.take (i * 4)).length = i * 4 := by rw [List.length_take, hcl]; omega
            rw [List.getElem?_append_right (by rw [htl]; omega), htl] at hu
            have hj' := (List.getElem?_eq_some_iff.1 hu).1
            have := World.cell?_setCells_in b news (off + i * 4) W.drew (fun t ht => (s3.out t ht).1) (k - i * 4) hj'
            rw [show off + k = off + i * 4 + (k - i * 4) by omega, this]
            simpa [List.getElem?_eq_getElem hj'] using hu
        · exact ⟨World.isSome_setCells b _ _ _ _ (hsp1 k hk).1, by rw [World.frozen?_setCells]; exact (hsp1 k hk).2⟩
      · rw [setCells_other _ _ _ _ _ hk, hW1, setCells_other _ _ _ _ _ hk]; rfl
      · rw [hW1]
        exact setCells_below L b hL _ _ W _ (setCells_below L b hL _ _ W _ ((Below.refl L W).drew))
    have HJ := Lib.hid hj
    have hj2 : n - (i + (n - j)) = 1 := by omega
    have HJ2 := Lib.hid hj2
    clear hj hj2
    clear hW1 hsp1 hsp hc hnat hnl hflat herase hlen1 h1' h1 hcl hnews hcs
    go_enter Try.func29, Try.ntmps29
    go_wp2_with fail
    go_region_law (refine step_append_room rfl (.tmp 22) (.tmp 25) 46 rfl 50 i0 4 Try.underlying46 hi0 hz1 b off i c (by simp [Act.eval, Act.put]) A (n - j) (c - j) news (by simp [Act.eval, Act.put]) s1.out hsrc.out s2.out (by omega) s3.out ?_; rw [← X.out])
    go_wp2
    go_ret
    exact HF.out
end Go.Proofs.Ytohamecjiidjdaa
