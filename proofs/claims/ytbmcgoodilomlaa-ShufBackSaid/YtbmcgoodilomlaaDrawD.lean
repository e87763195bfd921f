/- Appending integers; draw's Add. -/
import Derived.Test.YtbmcgoodilomlaaDrawC
import Derived.Deep.MidRow
import Derived.Deep.Upon
namespace Go.Proofs.Ytbmcgoodilomlaa
open Go.RowKit
set_option linter.unusedVariables false
set_option linter.unusedSimpArgs false

theorem ints_news {w : World} {ad : Addr} {m : Nat} {ys : List Int} (h : Ints .i64 w (some ad) m ys) : ∀ j u, (ys.map (Value.int .i64))[j]? = some u → w.cell? (ad.add j) = some u := by
  intro j u hu
  have hjl := (List.getElem?_eq_some_iff.1 hu).1
  simp only [List.length_map] at hjl
  obtain ⟨hl, h0 | ⟨b, off, e, hlt, _, hc⟩⟩ := h
  · omega
  · injection e with e
    subst e
    rw [addp, hc j (by omega)]
    rw [List.getElem?_map] at hu
    simp only [List.getD_eq_getElem?_getD]
    cases hz : ys[j]? with
    | none => rw [hz] at hu; cases hu
    | some y => rw [hz] at hu; simpa using hu
theorem ints_one_cell (ys : List Int) : ∀ u ∈ ys.map (Value.int .i64), u.oneCell' = true := by
  intro u hu; obtain ⟨x, _, rfl⟩ := List.mem_map.1 hu; rfl
/-- Appending integers to a row of one's own. -/
theorem app_ints {ops : Array Oper} {rest : List Oper} {o : Oper} {a : Act} {Q : Exit → Act → World → Prop} {w : World} (hgd : o.guard = none) (s x : Operand)
    (ho : o.op = .call { callee := .builtin .append, args := #[s, x], argTypes := #[22, 22] })
    (base : Nat) (v : Value) (n : Nat) (xs : List Int) (hs : a.eval s = v) (hown : w.ownsRow base 3 1 v n (xs.map (Value.int .i64)))
    (A : Option Addr) (m c : Nat) (ys : List Int) (hx : a.eval x = .slice A m c) (hI : Ints .i64 w A m ys) (hnil : A = none → c = 0) (hb : n + m ≤ 100000) (hbase : base ≤ w.heap.size)
    (h : ∀ v' w', w'.ownsRow base 3 1 v' (n + m) ((xs ++ ys).map (Value.int .i64)) → w.grownBy w' v.ownBlock → wpList Try.prog ops Q rest (a.put o.dst v') w') :
    wpList Try.prog ops Q (o :: rest) a w := by
  obtain ⟨i0, hi, hz0, hz1, hz2⟩ := info_parts infoIntD
  cases A with
  | none =>
    obtain rfl := hnil rfl
    have hm : m = 0 := by
      obtain ⟨_, h0 | ⟨b, off, e, _⟩⟩ := hI
      · exact h0
      · cases e
    subst hm
    obtain rfl : ys = [] := List.length_eq_zero_iff.1 hI.1
    refine wpList_append_own_none hgd s x 22 ho base 3 i0 1 Try.underlying22 hi v n _ hs hown hx ?_
    exact h v w (by simpa using hown) (World.grownBy.refl w _)
  | some ad =>
    refine wpList_append_own w hgd s x 22 ho base 3 i0 (.int .i64 0) 1 8 Try.underlying22 hi hz0 hz1 hz2 rfl (by decide) v n _ hs hown ad m c (ys.map (Value.int .i64)) hx (by simp [hI.1]) (ints_news hI) (ints_one_cell ys) (by unfold maxLen; omega) (by omega) hbase ?_
    intro v' w' h1 h2 _
    exact h v' w' (by simpa using h1) h2
theorem run_app0 (W : World) (ty : TypeId) (A : Option Addr) (n c : Nat) (a2 : Option Addr) (c2 : Nat) (hnc : n ≤ c) (hA : A = none → n = 0 ∧ c = 0) :
    (Builtin.append_ #[22, 22] ty #[.slice A n c, .slice a2 0 c2]).run Try.prog W = .ok (.slice A n c) W := by
  obtain ⟨i0, hi, hz0, hz1, hz2⟩ := info_parts infoIntD
  cases A with
  | none =>
    obtain ⟨rfl, rfl⟩ := hA rfl
    cases a2 <;> simp [Builtin.append_, run_underlying Try.underlying22, sizeOf, typeInfo, hi, Builtin.lenOf, Builtin.firstCells, storeCells, loadCells, loadCellsFrom]
  | some ad => cases a2 <;> simp [Builtin.append_, run_underlying Try.underlying22, sizeOf, typeInfo, hi, Builtin.lenOf, Builtin.firstCells, hnc, storeCells, loadCells, loadCellsFrom]
theorem own_shape {w : World} {B E n : Nat} {v : Value} {l : List Value} (h : w.ownsRow B E 1 v n l) : ∃ A c, v = .slice A n c := by
  rcases h.2 with ⟨rfl, rfl⟩ | ⟨g, cap, cur, rfl, _⟩
  · exact ⟨none, 0, rfl⟩
  · exact ⟨_, cap, rfl⟩
theorem wpl_app0 {ops : Array Oper} {rest : List Oper} {o : Oper} {a : Act} {Q : Exit → Act → World → Prop} {w : World} (hgd : o.guard = none) (s x : Operand)
    (ho : o.op = .call { callee := .builtin .append, args := #[s, x], argTypes := #[22, 22] }) (A : Option Addr) (n c : Nat) (a2 : Option Addr) (c2 : Nat) (hs : a.eval s = .slice A n c) (hx : a.eval x = .slice a2 0 c2) (hnc : n ≤ c) (hA : A = none → n = 0 ∧ c = 0)
    (h : wpList Try.prog ops Q rest (a.put o.dst (.slice A n c)) w) : wpList Try.prog ops Q (o :: rest) a w := by
  refine wpList_plain hgd fun K hK => ?_
  have hrun := run_app0 w o.type A n c a2 c2 hnc hA
  unfold Oper.wp
  simp [execOp, ho, resolve, invoke, builtin, hs, hx, hrun, Result.andThen]
  exact hK _ _ h
def AddPost (g b : Nat) (W : World) (zs ys : List Int) (k : Int) (e : Ending) (w' : World) : Prop :=
  e = .returned (.tuple #[]) ∧ ∃ b', (b' = b ∨ W.heap.size ≤ b') ∧ (b < W.heap.size → b' < w'.heap.size) ∧ DrB g b' w' (zs ++ ys) k ∧ W.heap.size ≤ w'.heap.size ∧ (∀ i, i < W.heap.size → i ≠ g → i ≠ b → w'.heap[i]? = W.heap[i]?) ∧ ∀ L, L ≤ g → L ≤ b → L ≤ W.heap.size → Below L W w'
theorem DrB.setl {g b' : Nat} {W : World} {zs : List Int} {k : Int} (f0 : W.frozen? ⟨g, 0, none⟩ = false) (f1 : W.frozen? ⟨g, 1, none⟩ = false) (c1 : W.cell? ⟨g, 1, none⟩ = some (.int .u64 k)) (c0 : (W.cell? ⟨g, 0, none⟩).isSome = true) (hg : g < W.heap.size)
    (A : Option Addr) (n c : Nat) (hl : zs.length = n) (hn : n ≤ c) (hc : c ≤ 9223372036854775807) (hz : (A = none ∧ n = 0 ∧ c = 0) ∨ ∃ off, A = some ⟨b', off, none⟩ ∧ b' < W.heap.size ∧ b' ≠ g ∧ (∀ i, i < n → W.cell? ⟨b', off + i, none⟩ = some (.int .i64 (zs.getD i 0))) ∧ ∀ i, i < c → (W.cell? ⟨b', off + i, none⟩).isSome = true ∧ W.frozen? ⟨b', off + i, none⟩ = false) :
    DrB g b' (W.setCell ⟨g, 0, none⟩ (.slice A n c)) zs k := by
  obtain ⟨v0, h0⟩ := Option.isSome_iff_exists.1 c0
  refine ⟨by rw [size_set]; exact hg, by simpa using f0, by simpa using f1, ?_, A, n, c, World.cell?_setCell_same _ _ _ h0, hl, hn, hc, ?_⟩
  · rw [World.cell?_setCell_other _ _ _ _ (by simp)]; exact c1
  · rcases hz with hz | ⟨off, e, b1, b2, h1, h2⟩
    · exact .inl hz
    · have hb := heap_other W g 0 (.slice A n c) b' b2
      exact .inr ⟨off, e, by rw [size_set]; exact b1, b2, fun i hi => (World.cell?_of_block hb).trans (h1 i hi), fun i hi => ⟨by rw [World.cell?_of_block hb]; exact (h2 i hi).1, (World.frozen?_of_block hb).trans (h2 i hi).2⟩⟩
theorem rowB_of2 {W : World} {B n : Nat} {v : Value} {zs : List Int} (hl : zs.length = n) (hn : 0 < n) (h : W.ownsRow B 3 1 v n (zs.map (Value.int .i64))) : ∃ b, B ≤ b ∧ b < W.heap.size ∧ RowB b W v n zs := by
  obtain ⟨b, hB, hR⟩ := rowB_of hl h
  obtain ⟨A, c, e, h1, h2, h3, ⟨_, h4, _⟩ | ⟨_, h4, _⟩⟩ := hR
  · omega
  · exact ⟨b, hB, h4, A, c, e, h1, h2, h3, .inr ⟨by assumption, h4, by assumption⟩⟩
theorem add_zero (g b : Nat) (zs : List Int) (k : Int) (W : World) (h : DrB g b W zs k) (a2 : Option Addr) (c2 : Nat) :
    Calls Try.prog 13 #[.pointer (some ⟨g, 0, none⟩), .slice a2 0 c2] W (AddPost g b W zs [] k) := by
  obtain ⟨h1, f0, f1, c1, A, n, c, c0, hl, hn, hc, hz⟩ := h
  have hA : A = none → n = 0 ∧ c = 0 := by
    rcases hz with hz | ⟨off, e, _⟩
    · exact fun _ => hz.2
    · rintro rfl; cases e
  have HA := Lib.hid hA
  have HP := Lib.hid (DrB.setl (b' := b) f0 f1 c1 (by rw [c0]; rfl) h1 A n c hl hn hc hz)
  clear hz hA
  go_enter Try.func13, Try.ntmps13
  go_wp2_with (at_builtin; refine wpl_app0 rfl _ _ rfl A n c a2 c2 rfl rfl hn HA.out ?_)
  go_wp2
  go_end0
  exact ⟨rfl, b, .inl rfl, fun h => by rw [size_set]; exact h, by simpa using HP.out, by simp [size_set], fun i _ hg _ => heap_other W g 0 _ i hg, fun L hL _ _ => (Below.refl _ _).setCell hL _⟩
theorem add_grow (g b : Nat) (zs : List Int) (k : Int) (W : World) (h1 : g < W.heap.size) (f0 : W.frozen? ⟨g, 0, none⟩ = false) (f1 : W.frozen? ⟨g, 1, none⟩ = false) (c1 : W.cell? ⟨g, 1, none⟩ = some (.int .u64 k)) (A : Option Addr) (n c : Nat) (c0 : W.cell? ⟨g, 0, none⟩ = some (.slice A n c))
    (v' : Value) (w2 : World) (m : Nat) (ys : List Int) (hm : 0 < n + m) (hown : w2.ownsRow W.heap.size 3 1 v' (n + m) ((zs ++ ys).map (Value.int .i64))) (hg : W.grownBy w2 none) :
    AddPost g b W zs ys k (.returned (.tuple #[])) (w2.setCell ⟨g, 0, none⟩ v') := by
  obtain ⟨b', hb', hbs, A', c', rfl, hl, hn, hc, hz⟩ := rowB_of2 (by simpa using hown.1) hm hown
  have e : w2.heap[g]? = W.heap[g]? := hg.block g h1 (by simp)
  have hsz := hg.size
  have hz2 : (A' = none ∧ n + m = 0 ∧ c' = 0) ∨ ∃ off, A' = some ⟨b', off, none⟩ ∧ b' < w2.heap.size ∧ b' ≠ g ∧ (∀ i, i < n + m → w2.cell? ⟨b', off + i, none⟩ = some (.int .i64 ((zs ++ ys).getD i 0))) ∧ ∀ i, i < c' → (w2.cell? ⟨b', off + i, none⟩).isSome = true ∧ w2.frozen? ⟨b', off + i, none⟩ = false := by
    rcases hz with hz | ⟨rfl, q1, q2, q3⟩
    · exact .inl hz
    · exact .inr ⟨0, rfl, q1, by omega, fun i hi => by rw [Nat.zero_add]; exact q2 i hi, fun i hi => by rw [Nat.zero_add]; exact q3 i hi⟩
  refine ⟨rfl, b', .inr hb', fun _ => by rw [size_set]; exact hbs, DrB.setl ((World.frozen?_of_block e).trans f0) ((World.frozen?_of_block e).trans f1) ((World.cell?_of_block e).trans c1) (by rw [World.cell?_of_block e, c0]; rfl) (by omega) A' (n + m) c' hl hn hc hz2, by rw [size_set]; exact hsz, ?_, ?_⟩
  · intro i hi hne _
    rw [heap_other w2 g 0 _ i hne]
    exact hg.block i hi (by simp)
  · intro L hL _ hL2
    exact ((Below.refl L W).grown hg hL2 (by simp)).setCell hL _
theorem setCells_below (L b : Nat) (hL : L ≤ b) : ∀ (vs : List Value) (o : Nat) (a w : World), Below L a w → Below L a (w.setCells b o vs)
  | [], _, _, _, h => h
  | v :: r, o, a, w, h => setCells_below L b hL r (o + 1) a _ (h.setCell hL v)
theorem add_room (g b off n c m : Nat) (zs ys : List Int) (k : Int) (W : World) (h1 : g < W.heap.size) (f0 : W.frozen? ⟨g, 0, none⟩ = false) (f1 : W.frozen? ⟨g, 1, none⟩ = false) (c1 : W.cell? ⟨g, 1, none⟩ = some (.int .u64 k)) (c0 : W.cell? ⟨g, 0, none⟩ = some (.slice (some ⟨b, off, none⟩) n c))
    (hl : zs.length = n) (hyl : ys.length = m) (hr : n + m ≤ c) (hc : c ≤ 9223372036854775807) (b1 : b < W.heap.size) (b2 : b ≠ g) (hcell : ∀ i, i < n → W.cell? ⟨b, off + i, none⟩ = some (.int .i64 (zs.getD i 0))) (hsp : ∀ i, i < c → (W.cell? ⟨b, off + i, none⟩).isSome = true ∧ W.frozen? ⟨b, off + i, none⟩ = false) :
    ∃ W2, W.setCells b (off + n) (ys.map (Value.int .i64)) = W2 ∧ W2.cell? ⟨g, 0, none⟩ = some (.slice (some ⟨b, off, none⟩) n c) ∧ W2.frozen? ⟨g, 0, none⟩ = false ∧
      AddPost g b W zs ys k (.returned (.tuple #[])) (W2.setCell ⟨g, 0, none⟩ (.slice (some ⟨b, off, none⟩) (n + m) c)) := by
  have hb := setCells_below b b (Nat.le_refl _) (ys.map (Value.int .i64)) (off + n) W W (Below.refl _ _)
  have hother : ∀ i, i < W.heap.size → i ≠ b → (W.setCells b (off + n) (ys.map (Value.int .i64))).heap[i]? = W.heap[i]? := fun i hi hne => World.heap_setCells_other W b _ _ hi hne
  have eg := hother g h1 (Ne.symm b2)
  have hin : ∀ j, j < (ys.map (Value.int .i64)).length → (W.cell? ⟨b, (off + n) + j, none⟩).isSome = true := fun j hj => by
    simp [hyl] at hj
    have := (hsp (n + j) (by omega)).1
    simpa [Nat.add_assoc] using this
  refine ⟨_, rfl, (World.cell?_of_block eg).trans c0, (World.frozen?_of_block eg).trans f0, rfl, b, .inl rfl, fun h => by rw [size_set]; exact Nat.lt_of_lt_of_le h hb.size, ?_, ?_, ?_, ?_⟩
  · refine DrB.setl ((World.frozen?_of_block eg).trans f0) ((World.frozen?_of_block eg).trans f1) ((World.cell?_of_block eg).trans c1) (by rw [World.cell?_of_block eg, c0]; rfl) (Nat.lt_of_lt_of_le h1 hb.size) _ (n + m) c (by simp; omega) hr hc (.inr ⟨off, rfl, Nat.lt_of_lt_of_le b1 hb.size, b2, fun i hi => ?_, fun i hi => ⟨World.isSome_setCells b _ _ _ _ (hsp i hi).1, by rw [World.frozen?_setCells]; exact (hsp i hi).2⟩⟩)
    by_cases h : i < n
    · rw [World.cell?_setCells_out b _ _ W ⟨b, off + i, none⟩ (fun _ _ => by simp; omega), hcell i h]
      simp [List.getD_eq_getElem?_getD, List.getElem?_append_left (show i < zs.length by omega)]
    · have hj : i - n < (ys.map (Value.int .i64)).length := by simp; omega
      have := World.cell?_setCells_in b (ys.map (Value.int .i64)) (off + n) W hin (i - n) hj
      rw [show off + n + (i - n) = off + i by omega] at this
      rw [this]
      simp [List.getD_eq_getElem?_getD, List.getElem?_append_right (show zs.length ≤ i by omega), hl, List.getElem?_eq_getElem (show i - n < ys.length by omega)]
  · rw [size_set]; exact hb.size
  · intro i hi hg hbn
    rw [heap_other _ g 0 _ i hg]
    exact hother i hi hbn
  · intro L hL hLb _
    exact (setCells_below L b hLb _ _ W W (Below.refl _ _)).setCell hL _
set_option maxHeartbeats 800000 in
theorem add_b (g b : Nat) (zs : List Int) (k : Int) (W : World) (h : DrB g b W zs k) (a2 : Option Addr) (m c2 : Nat) (ys : List Int) (hI : Ints .i64 W a2 m ys) (hm : m ≤ 100) (hzl : zs.length ≤ 1000) :
    Calls Try.prog 13 #[.pointer (some ⟨g, 0, none⟩), .slice a2 m c2] W (AddPost g b W zs ys k) := by
  by_cases h0 : m = 0
  · subst h0
    obtain rfl : ys = [] := List.length_eq_zero_iff.1 hI.1
    exact add_zero g b zs k W h a2 c2
  · obtain ⟨i0, hi, hz0, hz1, hz2⟩ := info_parts infoIntD
    obtain ⟨ad, rfl⟩ : ∃ ad, a2 = some ad := by
      obtain ⟨_, h | ⟨b, off, e, _⟩⟩ := hI
      · omega
      · exact ⟨_, e⟩
    obtain ⟨h1, f0, f1, c1, A, n, c, c0, hl, hn, hc, hz⟩ := h
    have HI := Lib.hid hI; clear hI
    rcases hz with ⟨rfl, rfl, rfl⟩ | ⟨off, rfl, b1, b2, hcell, hsp⟩
    · obtain rfl : zs = [] := List.length_eq_zero_iff.1 hl
      have HG := Lib.hid (fun v' w2 h h' => add_grow g b [] k W h1 f0 f1 c1 none 0 0 c0 v' w2 m ys (by omega) h h')
      go_enter Try.func13, Try.ntmps13
      go_wp2_with (at_builtin; refine wpList_append_grows _ rfl _ _ 22 rfl 3 i0 (.int .i64 0) 1 8 Try.underlying22 hi hz0 hz1 hz2 rfl (by decide) none 0 0 [] rfl (fun _ => ⟨rfl, rfl⟩) rfl (by simp) ad m c2 (ys.map (Value.int .i64)) rfl ?c1 ?c2 ?c3 ?c4 ?c5 ?c6 ?_)
      case c1 => simp [HI.out.1]
      case c2 => exact ints_news HI.out
      case c3 => exact ints_one_cell ys
      case c4 => omega
      case c5 => unfold maxLen; omega
      case c6 => omega
      intro v' w2 hown hg
      have e : w2.heap[g]? = W.heap[g]? := hg.block g h1 (by simp)
      have hc0 : w2.cell? ⟨g, 0, none⟩ = some (.slice none 0 0) := (World.cell?_of_block e).trans c0
      have hf0 : w2.frozen? ⟨g, 0, none⟩ = false := (World.frozen?_of_block e).trans f0
      have HF := Lib.hid (HG.out v' w2 (by simpa using hown) hg)
      obtain ⟨A', c', rfl⟩ := own_shape hown
      clear hown hg e HG
      go_wp2
      go_end0
      exact HF.out
    · have HC := Lib.hid (And.intro hcell hsp)
      have HR := Lib.hid (fun hr => add_room g b off n c m zs ys k W h1 f0 f1 c1 c0 hl HI.out.1 hr hc b1 b2 hcell hsp)
      have HG := Lib.hid (fun v' w2 h h' => add_grow g b zs k W h1 f0 f1 c1 (some ⟨b, off, none⟩) n c c0 v' w2 m ys (by omega) h h')
      clear hcell hsp
      go_enter Try.func13, Try.ntmps13
      go_wp2_with (at_builtin; refine wpList_append_arg _ rfl _ _ 22 rfl 3 i0 (.int .i64 0) 1 8 Try.underlying22 hi hz0 hz1 hz2 rfl (by decide) b off n c (zs.map (Value.int .i64)) rfl ?c1 ?c2 ad m c2 (ys.map (Value.int .i64)) rfl ?c3 ?c4 ?c5 ?c6 ?c7 ?c8 ?_ ?_)
      case c1 => simp [hl]
      case c2 => exact fun j u hu => by simpa [addp] using ints_news (w := W) (ad := ⟨b, off, none⟩) (m := n) (ys := zs) ⟨hl, .inr ⟨b, off, rfl, b1, by omega, HC.out.1⟩⟩ j u hu
      case c3 => simp [HI.out.1]
      case c4 => exact ints_news HI.out
      case c5 => exact ints_one_cell ys
      case c6 =>
        intro hr j hj
        simp [HI.out.1] at hj
        have := HC.out.2 (n + j) (by omega)
        simpa [Nat.add_assoc] using this
      case c7 => unfold maxLen; omega
      case c8 => omega
      · intro hr
        obtain ⟨W2, hW, hc0, hf0, hpost⟩ := HR.out hr
        have HF := Lib.hid hpost
        try rw [Nat.mul_one]
        rw [hW]
        clear hW hpost HR HG
        go_wp2
        go_end0
        exact HF.out
      · intro hr v' w2 hown hg
        have e : w2.heap[g]? = W.heap[g]? := hg.block g h1 (by simp)
        have hc0 : w2.cell? ⟨g, 0, none⟩ = some (.slice (some ⟨b, off, none⟩) n c) := (World.cell?_of_block e).trans c0
        have hf0 : w2.frozen? ⟨g, 0, none⟩ = false := (World.frozen?_of_block e).trans f0
        have HF := Lib.hid (HG.out v' w2 (by simpa using hown) hg)
        obtain ⟨A', c', rfl⟩ := own_shape hown
        clear hown hg e HG
        go_wp2
        go_end0
        exact HF.out
end Go.Proofs.Ytbmcgoodilomlaa
