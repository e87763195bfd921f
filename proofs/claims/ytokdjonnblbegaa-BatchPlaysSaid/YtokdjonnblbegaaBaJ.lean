/- slices.DeleteFunc at numbers and at slices of numbers. -/
import Derived.Test.YtokdjonnblbegaaBaI
import Derived.Deep.RegionHeld3
import Derived.Maps.OwnSet
import Derived.Maps.OwnIn
import Derived.Lib.SliceRun
import Derived.Deep.DeepCutAuto
namespace Go.Proofs.Ytokdjonnblbegaa
set_option maxRecDepth 100000
open Go.RowKit Go.Maps
set_option linter.unusedVariables false
set_option linter.unusedSimpArgs false

theorem run_clear_any (w : World) (t e ty : TypeId) (z : Value) (ht : Try.prog.underlying t = some (.slice e)) (hv : ∀ w, (zeroValue e).run Try.prog w = .ok z w) (b o n c : Nat) (zs : List Value) (hzs : (Builtin.zeroCells z.cells n).toList = zs) (h1 : ∀ u ∈ zs, u.oneCell' = true) (hn : 0 < n)
    (hc : ∀ j, j < zs.length → (w.cell? ⟨b, o + j, none⟩).isSome = true) (hf : ∀ j, j < zs.length → w.frozen? ⟨b, o + j, none⟩ = false) :
    (Builtin.clear_ #[t] ty #[.slice (some ⟨b, o, none⟩) n c]).run Try.prog w = .ok (.tuple #[]) (w.setCells b o zs) := by
  have hst := run_storeCells_cells (P := Try.prog) b o zs 0 w (by simpa using hc) (by simpa using hf) h1
  simp only [Nat.add_zero] at hst
  obtain ⟨m, rfl⟩ : ∃ m, n = m + 1 := ⟨n - 1, by omega⟩
  simp [Builtin.clear_, run_underlying ht, hv, hzs, hst]
theorem setCells_other (b : Nat) (vs : List Value) (o : Nat) (w : World) (i : Nat) (h : i ≠ b) : (w.setCells b o vs).heap[i]? = w.heap[i]? := by
  induction vs generalizing o w with
  | nil => rfl
  | cons v r ih => rw [World.setCells, ih, heap_other _ _ _ _ _ h]
/-- All but block b stands; of b its cells are there, and may be written as they might. -/
def KB (b : Nat) (W w' : World) : Prop := W.heap.size ≤ w'.heap.size ∧ (∀ i, i < W.heap.size → i ≠ b → w'.heap[i]? = W.heap[i]?) ∧ (∀ o, (W.cell? ⟨b, o, none⟩).isSome = true → (w'.cell? ⟨b, o, none⟩).isSome = true) ∧ (∀ o, w'.frozen? ⟨b, o, none⟩ = W.frozen? ⟨b, o, none⟩) ∧ ∀ L, L ≤ b → L ≤ W.heap.size → Below L W w'
theorem KB.refl (b : Nat) (W : World) : KB b W W := ⟨Nat.le_refl _, fun _ _ _ => rfl, fun _ h => h, fun _ => rfl, fun _ _ _ => Below.refl _ _⟩
theorem KB.trans {b : Nat} {A B C : World} (h : KB b A B) (k : KB b B C) : KB b A C :=
  ⟨Nat.le_trans h.1 k.1, fun i hi hb => (k.2.1 i (Nat.lt_of_lt_of_le hi h.1) hb).trans (h.2.1 i hi hb), fun o ho => k.2.2.1 o (h.2.2.1 o ho), fun o => (k.2.2.2.1 o).trans (h.2.2.2.1 o), fun L h1 h2 => (h.2.2.2.2 L h1 h2).trans (k.2.2.2.2 L h1 (Nat.le_trans h2 h.1))⟩
theorem KB.of_below {b : Nat} {W w' : World} (h : Below W.heap.size W w') (hb : b < W.heap.size) : KB b W w' :=
  ⟨h.size, fun i hi _ => h.block i hi, fun o ho => by rw [World.cell?_of_block (h.block b hb)]; exact ho, fun o => World.frozen?_of_block (h.block b hb), fun L _ hL => h.mono hL⟩
theorem KB.setCells {b o : Nat} {W : World} (vs : List Value) : KB b W (W.setCells b o vs) :=
  ⟨by rw [setCells_size]; exact Nat.le_refl _, fun i _ hb => setCells_other b vs o W i hb, fun o' ho => World.isSome_setCells b _ _ _ _ ho, fun o' => World.frozen?_setCells _ _ _ _ _, fun L hL _ => setCells_below L b hL _ _ W _ (Below.refl _ _)⟩
theorem KB.setCell {b o : Nat} {W : World} (v : Value) : KB b W (W.setCell ⟨b, o, none⟩ v) := KB.setCells (o := o) [v]
theorem KB.block {b i : Nat} {W w' : World} (h : KB b W w') (hi : i < W.heap.size) (hb : i ≠ b) : w'.heap[i]? = W.heap[i]? := h.2.1 i hi hb
theorem zeros_len (z : Value) (hz : z.cells.size = 1) (n : Nat) : (Builtin.zeroCells z.cells n).toList.length = n := by
  rw [Array.length_toList, size_zeroCells, hz, Nat.mul_one]
def I64 (x : Int) : Prop := -9223372036854775808 ≤ x ∧ x ≤ 9223372036854775807
theorem I64.wf {x : Int} (h : I64 x) : (Lit.int .i64 x).wf = true := by
  have h1 := h.1
  have h2 := h.2
  simp [Lit.wf, IntKind.min, IntKind.max, IntKind.signed, IntKind.bits]
  omega
theorem kI : Keyed Try.prog 3 := int_keyed Try.underlying3
theorem zE (w : World) : (zeroValue 43).run Try.prog w = .ok (.agg #[]) w := by kernel_rfl
def Sd (zs : List Int) : DataW Unit := setOf (.agg []) (zs.map (Lit.int .i64))
theorem any_int (x : Int) : ∀ zs : List Int, (zs.any ((fun y => Lit.sameKey y (.int .i64 x)) ∘ Lit.int .i64)) = decide (x ∈ zs)
  | [] => by simp
  | y :: r => by
    rw [List.any_cons, any_int x r]
    have e : ((fun y => Lit.sameKey y (.int .i64 x)) ∘ Lit.int .i64) y = decide (x = y) := by
      by_cases h : y = x
      · subst h; simp [Lit.sameKey]
      · have h' : ¬ x = y := fun e => h e.symm
        simp [Lit.sameKey, h, h']
    rw [e]
    simp [List.mem_cons]
theorem has_Sd (zs : List Int) (x : Int) : Maps.has (Sd zs) (.int .i64 x) = decide (x ∈ zs) := by
  unfold Sd
  rw [has_setOf _ _ _ (fun y hy => by obtain ⟨_, _, rfl⟩ := List.mem_map.1 hy; trivial), List.any_map]
  exact any_int x _
/-- The set of numbers that go, in block mb, by the box bx. -/
def GN (mb bx : Nat) (zs : List Int) (W : World) : Prop := W.cell? ⟨bx, 0, none⟩ = some (.map (some mb)) ∧ ∃ n, W.ownsMap Try.prog 3 (unitElem (H := Unit)) mb n (Sd zs)
theorem GN.kb {mb bx b : Nat} {zs : List Int} {W w' : World} (h : GN mb bx zs W) (hb : KB b W w') (h1 : bx ≠ b) (h2 : mb ≠ b) : GN mb bx zs w' := by
  obtain ⟨h3, n, h4⟩ := h
  refine ⟨(World.cell?_of_block (hb.block (World.block_lt_of_cell? W ⟨bx, 0, none⟩ h3) h1)).trans h3, n, ?_⟩
  have hlt := h4.lt
  obtain ⟨es, clock, e1, e2⟩ := h4
  exact ⟨es, clock, (hb.block hlt h2).trans e1, e2⟩
theorem goes1 (mb bx : Nat) (zs : List Int) (x : Int) (W : World) (hx : I64 x) (h : GN mb bx zs W) : Calls Try.prog 15 #[.int .i64 x, .pointer (some ⟨bx, 0, none⟩)] W fun e w' => e = .returned (.bool (decide (x ∈ zs))) ∧ Below W.heap.size W w' := by
  obtain ⟨h1, n, h2⟩ := h
  have hkey : keyOf Try.prog 3 (.int .i64 x) = some (.int .i64 x) := keyOf_int_mk Try.underlying3 hx.wf
  have HS := Lib.hid (has_Sd zs x)
  go_enter Try.func15, Try.ntmps15
  go_wp2_with (at_lookup; refine wpList_lookup_own_unit _ rfl _ _ 42 rfl 3 43 kI Try.underlying42 (zE _) mb n _ rfl h2 _ _ rfl hkey ?_)
  go_ret
  exact ⟨ret_bool HS.out, alc0 _ _⟩
theorem goes2 (A : Option Addr) (k c : Nat) (W : World) : Calls Try.prog 18 #[.slice A k c] W fun e w' => e = .returned (.bool (decide (k = 0))) ∧ Below W.heap.size W w' := by
  by_cases h : k = 0
  · subst h
    go_enter Try.func18, Try.ntmps18
    go_wp2
    go_ret
    exact ⟨rfl, Below.refl _ _⟩
  · have h1 : ¬ (k : Int) = 0 := by omega
    have h2 : ((k : Int) == 0) = false := by simpa using h
    have h3 : decide (k = 0) = false := by simpa using h
    rw [h3]
    go_enter Try.func18, Try.ntmps18
    go_wp2
    go_ret
    exact ⟨rfl, Below.refl _ _⟩
theorem filter_next {α : Type} {P : α → Bool} {us : List α} {j : Nat} {x : α} (h : us[j]? = some x) : (us.take (j + 1)).filter (fun x => !P x) = (us.take j).filter (fun x => !P x) ++ if P x then [] else [x] := by
  rw [List.take_add_one, h, List.filter_append]
  cases hp : P x <;> simp [hp]
theorem zero_one (z : Value) (hz : z.cells = #[z]) (h1 : z.oneCell' = true) (n : Nat) (u : Value) (hu : u ∈ (Builtin.zeroCells z.cells n).toList) : u.oneCell' = true := by
  rw [hz] at hu
  unfold Builtin.zeroCells at hu
  rw [Array.mem_toList_iff] at hu
  obtain ⟨i, _, rfl⟩ := Array.mem_map.1 hu
  have e : i % (#[z] : Array Value).size = 0 := Nat.mod_one i
  rw [e]
  exact h1
/-- What IndexFunc tells: the first of which P holds; -1: of none. -/
def IdxIPost (P : Int → Bool) (us : List Int) (W : World) (e : Ending) (w' : World) : Prop :=
  Below W.heap.size W w' ∧ ∃ i, i ≤ us.length ∧ (us.take i).filter (fun x => !P x) = us.take i ∧ (i = us.length → e = .returned (.int .i64 (-1))) ∧ (i < us.length → e = .returned (.int .i64 i) ∧ ∃ x, us[i]? = some x ∧ P x = true)
set_option maxHeartbeats 1600000 in
theorem idxI (P : Int → Bool) (us : List Int) (b o c n : Nat) (bx : Nat) (W : World) (hn : us.length = n) (hn5 : n ≤ 100000) (hb : b < W.heap.size) (hA : ∀ (i : Nat) (x : Int), us[i]? = some x → W.cell? ⟨b, o + i, none⟩ = some (.int .i64 x))
    (hP : ∀ w' : World, KB b W w' → ∀ x ∈ us, Calls Try.prog 15 #[.int .i64 x, .pointer (some ⟨bx, 0, none⟩)] w' fun e w'' => e = .returned (.bool (P x)) ∧ Below w'.heap.size w' w'') :
    Calls Try.prog 21 #[.slice (some ⟨b, o, none⟩) n c, .func (.func 15) #[] #[.pointer (some ⟨bx, 0, none⟩)]] W (IdxIPost P us W) := by
  have HA := Lib.hid hA
  have HP := Lib.hid hP
  have HN := Lib.hid hn
  have HBW := Lib.hid hb
  clear hA hP hn hb
  go_enter Try.func21, Try.ntmps21
  go_wp2_with fail
  go_loopw [8] (fun v8 wr => ∃ i : Nat, i ≤ n ∧ v8 = .int .i64 i ∧ Hid (Below W.heap.size W wr) ∧ Hid ((us.take i).filter (fun x => !P x) = us.take i)) (fun v8 _ => n - (intOf v8).toNat)
  case atStart => exact ⟨0, by omega, rfl, Lib.hid (Below.refl _ _), Lib.hid rfl⟩
  case round =>
    obtain ⟨i, hi, rfl, HW, HT⟩ := hrel
    by_cases hlt : i < n
    · obtain ⟨x, hx⟩ : ∃ x, us[i]? = some x := ⟨us[i]'(by have := HN.out; omega), List.getElem?_eq_getElem _⟩
      have ci := (HW.out.cell (p := ⟨b, o + i, none⟩) HBW.out).trans (HA.out i x hx)
      have hcall := HP.out wr (KB.of_below HW.out HBW.out) x (List.mem_of_getElem? hx)
      have HX := Lib.hid hx
      have HF := Lib.hid (filter_next (P := P) hx)
      have HTN : Hid (us.take (i + 1) = us.take i ++ [x]) := Lib.hid (by rw [List.take_add_one, hx]; rfl)
      have HC := Lib.hid hcall
      clear hx hcall
      have i1 : (i : Int) < (n : Int) := by omega
      have i2 : (0 : Int) ≤ (i : Int) := by omega
      obtain ⟨B, hB⟩ : ∃ B, P x = B := ⟨_, rfl⟩
      have HBB := Lib.hid hB
      skip
      go_wp2_with fail
      refine HC.out.mono ?_
      rintro e w2 ⟨rfl, hb2⟩
      have HB2 : Hid (Below W.heap.size W w2) := Lib.hid (thn HW.out hb2)
      rw [hB]
      clear hb2 ci hB HC
      cases B with
      | true =>
        go_wp2
        go_ret
        refine ⟨HB2.out, i, by have := HN.out; omega, HT.out, fun h => ?_, fun _ => ⟨rfl, _, HX.out, HBB.out⟩⟩
        have := HN.out
        omega
      | false =>
        go_wp2_with fail
        go_roundw
        case rel => exact ⟨i + 1, by omega, by go_num, HB2, Lib.hid (by rw [HF.out, HTN.out, HT.out, HBB.out]; rfl)⟩
        case measure => simp [intOf]; omega
    · obtain rfl : i = n := by omega
      have i1 : ¬ (i : Int) < (i : Int) := by omega
      go_wp2
      go_ret
      exact ⟨HW.out, i, by have := HN.out; omega, HT.out, fun _ => rfl, fun h => by have := HN.out; omega⟩
def DelIPost (P : Int → Bool) (us : List Int) (b o c : Nat) (W : World) (e : Ending) (w' : World) : Prop :=
  e = .returned (.slice (some ⟨b, o, none⟩) (us.filter (fun x => !P x)).length c) ∧ (∀ (i : Nat) (x : Int), (us.filter (fun x => !P x))[i]? = some x → w'.cell? ⟨b, o + i, none⟩ = some (.int .i64 x)) ∧ KB b W w'
set_option maxHeartbeats 3200000 in
theorem delI (P : Int → Bool) (us : List Int) (b o c n : Nat) (bx : Nat) (W : World) (hn : us.length = n) (hn5 : n ≤ 100000) (hnc : n ≤ c) (hc9 : c ≤ 9223372036854775807) (hb : b < W.heap.size) (hA : ∀ (i : Nat) (x : Int), us[i]? = some x → W.cell? ⟨b, o + i, none⟩ = some (.int .i64 x)) (hf : ∀ i, i < n → W.frozen? ⟨b, o + i, none⟩ = false)
    (hP : ∀ w' : World, KB b W w' → ∀ x ∈ us, Calls Try.prog 15 #[.int .i64 x, .pointer (some ⟨bx, 0, none⟩)] w' fun e w'' => e = .returned (.bool (P x)) ∧ Below w'.heap.size w' w'') :
    Calls Try.prog 16 #[.slice (some ⟨b, o, none⟩) n c, .func (.func 15) #[] #[.pointer (some ⟨bx, 0, none⟩)]] W (DelIPost P us b o c W) := by
  have HI := Lib.hid (idxI P us b o c n bx W hn hn5 hb hA hP)
  have HA := Lib.hid hA
  have HP := Lib.hid hP
  have HN := Lib.hid hn
  have HBW := Lib.hid hb
  have HFZ := Lib.hid hf
  clear hA hP hn hb hf
  go_enter Try.func16, Try.ntmps16
  go_wp2_with fail
  refine HI.out.mono ?_
  rintro e w1 ⟨hb1, i0, hi0, hfi, hend, hin⟩
  have HB1 := Lib.hid hb1
  have HFI := Lib.hid hfi
  clear hb1 hfi HI
  by_cases hlt0 : i0 = n
  · obtain rfl := hend (by have := HN.out; omega)
    clear hend hin
    have HALL : Hid (us.filter (fun x => !P x) = us) := Lib.hid (by
      have h := HFI.out
      rw [hlt0, ← HN.out, List.take_length] at h
      exact h)
    clear hlt0
    go_wp2_with fail
    go_ret
    refine ⟨?_, ?_, KB.of_below HB1.out HBW.out⟩
    · rw [HALL.out, HN.out]
      rfl
    · rw [HALL.out]
      intro i x hx
      exact (HB1.out.cell (p := ⟨b, o + i, none⟩) HBW.out).trans (HA.out i x hx)
  · obtain ⟨rfl, x0, hx0, hPx0⟩ := hin (by have := HN.out; omega)
    clear hend hin
    have hi0n : i0 < n := by have := HN.out; omega
    have hm1 : ¬ (i0 : Int) = -1 := by omega
    have hm2 : ((i0 : Int) == -1) = false := beq_false_of_ne hm1
    have HX0 : Hid ((us.take (i0 + 1)).filter (fun x => !P x) = us.take i0) := Lib.hid (by rw [filter_next (P := P) hx0, HFI.out, hPx0]; simp)
    clear hx0 hPx0 hlt0 hi0
    go_wp2_with fail
    go_loopw [5, 6] (fun v5 v6 wr => ∃ i j : Nat, v5 = .int .i64 i ∧ v6 = .int .i64 j ∧ i < j ∧ j ≤ n ∧ i = ((us.take j).filter (fun x => !P x)).length ∧ Hid (∀ (k : Nat) (x : Int), ((us.take j).filter (fun x => !P x))[k]? = some x → wr.cell? ⟨b, o + k, none⟩ = some (.int .i64 x)) ∧ Hid (∀ (k : Nat) (x : Int), j ≤ k → us[k]? = some x → wr.cell? ⟨b, o + k, none⟩ = some (.int .i64 x)) ∧ Hid (KB b W wr))
      (fun _ v6 _ => n - (intOf v6).toNat)
    case atStart =>
      refine ⟨i0, i0 + 1, rfl, by go_num, by omega, by omega, ?_, Lib.hid (fun k x hk => ?_), Lib.hid (fun k x _ hk => (HB1.out.cell (p := ⟨b, o + k, none⟩) HBW.out).trans (HA.out k x hk)), Lib.hid (KB.of_below HB1.out HBW.out)⟩
      · rw [HX0.out, List.length_take]
        have := HN.out
        omega
      · rw [HX0.out] at hk
        have hk2 : us[k]? = some x := by
          rw [List.getElem?_take] at hk
          split at hk
          · exact hk
          · cases hk
        exact (HB1.out.cell (p := ⟨b, o + k, none⟩) HBW.out).trans (HA.out k x hk2)
    case round =>
      obtain ⟨i, j, rfl, rfl, hij, hjn, hil, HC1, HC2, HK⟩ := hrel
      have HIL := Lib.hid hil
      clear hil
      by_cases hlt : j < n
      · obtain ⟨x, hx⟩ : ∃ x, us[j]? = some x := ⟨us[j]'(by have := HN.out; omega), List.getElem?_eq_getElem _⟩
        have cj := HC2.out j x (Nat.le_refl _) hx
        have HC := Lib.hid (HP.out wr HK.out x (List.mem_of_getElem? hx))
        have HF := Lib.hid (filter_next (P := P) hx)
        clear hx
        have i1 : (j : Int) < (n : Int) := by omega
        have i2 : (0 : Int) ≤ (j : Int) := by omega
        have i3 : (i : Int) < (n : Int) := by omega
        have i4 : (0 : Int) ≤ (i : Int) := by omega
        obtain ⟨B, hB⟩ : ∃ B, P x = B := ⟨_, rfl⟩
        have HBB := Lib.hid hB
        skip
        go_wp2_with fail
        refine HC.out.mono ?_
        rintro e w2 ⟨rfl, hb2⟩
        have HB2 := Lib.hid hb2
        have HK2 : Hid (KB b W w2) := Lib.hid (HK.out.trans (KB.of_below hb2 (Nat.lt_of_lt_of_le HBW.out HK.out.1)))
        have hbr : b < wr.heap.size := Nat.lt_of_lt_of_le HBW.out HK.out.1
        have HC3 : Hid (∀ (k : Nat) (x : Int), ((us.take j).filter (fun x => !P x))[k]? = some x → w2.cell? ⟨b, o + k, none⟩ = some (.int .i64 x)) := Lib.hid (fun k x hk => (hb2.cell (p := ⟨b, o + k, none⟩) hbr).trans (HC1.out k x hk))
        have HC4 : Hid (∀ (k : Nat) (x : Int), j ≤ k → us[k]? = some x → w2.cell? ⟨b, o + k, none⟩ = some (.int .i64 x)) := Lib.hid (fun k x hj hk => (hb2.cell (p := ⟨b, o + k, none⟩) hbr).trans (HC2.out k x hj hk))
        have fi : w2.frozen? ⟨b, o + i, none⟩ = false := (HK2.out.2.2.2.1 _).trans (HFZ.out i (by omega))
        have si : (w2.cell? ⟨b, o + i, none⟩).isSome = true := HK2.out.2.2.1 _ (by
          rw [HA.out i _ (List.getElem?_eq_getElem (show i < us.length by have := HN.out; omega))]
          rfl)
        obtain ⟨ui, hui⟩ := Option.isSome_iff_exists.1 si
        rw [hB]
        clear hb2 cj hB HC si HC1 HC2 HK hbr
        cases B with
        | true =>
          go_wp2_with fail
          go_roundw
          case rel => exact ⟨i, j + 1, rfl, by go_num, by omega, by omega, by rw [HF.out, HBB.out, HIL.out]; simp, Lib.hid (by rw [HF.out, HBB.out]; simpa using HC3.out), Lib.hid (fun k x hk => HC4.out k x (by omega)), HK2⟩
          case measure => simp [intOf]; omega
        | false =>
          go_wp2_with fail
          go_roundw
          case rel =>
            refine ⟨i + 1, j + 1, by go_num, by go_num, by omega, by omega, by rw [HF.out, HBB.out]; simp [← HIL.out], Lib.hid (fun k y hk => ?_), Lib.hid (fun k y hk hy => ?_), Lib.hid (HK2.out.trans (KB.setCell _))⟩
            · rw [HF.out, HBB.out] at hk
              simp only [Bool.false_eq_true, if_false] at hk
              by_cases hki : k < i
              · rw [List.getElem?_append_left (by rw [← HIL.out]; exact hki)] at hk
                rw [World.cell?_setCell_other _ _ _ _ (by intro e; injection e with _ e2 _; omega)]
                exact HC3.out k y hk
              · rw [List.getElem?_append_right (by rw [← HIL.out]; omega), ← HIL.out] at hk
                have hki2 : k - i = 0 := by
                  have := (List.getElem?_eq_some_iff.1 hk).1
                  simp at this
                  omega
                rw [hki2] at hk
                obtain rfl : _ = y := by simpa using hk
                obtain rfl : k = i := by omega
                exact World.cell?_setCell_same _ _ _ hui
            · rw [World.cell?_setCell_other _ _ _ _ (by intro e; injection e with _ e2 _; omega)]
              exact HC4.out k y (by omega) hy
          case measure => simp [intOf]; omega
      · obtain rfl : j = n := by omega
        have i1 : ¬ (j : Int) < (j : Int) := by omega
        have hic : ¬ c = i := by omega
        have hic2 : i ≤ c := by omega
        have hin2 : i ≤ j := by omega
        have HFULL : Hid ((us.take j) = us) := Lib.hid (by rw [← HN.out, List.take_length])
        have hnp : 0 < j - i := by omega
        have hzl : (Builtin.zeroCells (Value.cells (.int .i64 0)) (j - i)).toList.length = j - i := zeros_len _ rfl _
        have hone : ∀ u ∈ (Builtin.zeroCells (Value.cells (.int .i64 0)) (j - i)).toList, u.oneCell' = true := fun u hu => zero_one _ rfl rfl _ u hu
        have hws : ∀ k, k < j → (wr.cell? ⟨b, o + k, none⟩).isSome = true ∧ wr.frozen? ⟨b, o + k, none⟩ = false := fun k hk => ⟨HK.out.2.2.1 _ (by
          rw [HA.out k _ (List.getElem?_eq_getElem (show k < us.length by have := HN.out; omega))]
          rfl), (HK.out.2.2.2.1 _).trans (HFZ.out k hk)⟩
        obtain ⟨zs, hzs⟩ : ∃ zs, (Builtin.zeroCells (Value.cells (.int .i64 0)) (j - i)).toList = zs := ⟨_, rfl⟩
        have hcl2 : ∀ ty, (Builtin.clear_ #[26] ty #[.slice (some ⟨b, o + i, none⟩) (j - i) (c - i)]).run Try.prog wr = .ok (.tuple #[]) (wr.setCells b (o + i) zs) := fun ty => by
          refine run_clear_any wr _ _ ty _ Try.underlying26 Try.zeroValue3 b _ (j - i) _ _ hzs (by rw [← hzs]; exact hone) hnp (fun k hk => ?_) (fun k hk => ?_)
          · rw [Nat.add_assoc]; exact (hws (i + k) (by rw [← hzs, hzl] at hk; omega)).1
          · rw [Nat.add_assoc]; exact (hws (i + k) (by rw [← hzs, hzl] at hk; omega)).2
        have HEND : Hid (KB b W (wr.setCells b (o + i) zs) ∧ ∀ (k : Nat) (x : Int), ((us.take j).filter (fun x => !P x))[k]? = some x → (wr.setCells b (o + i) zs).cell? ⟨b, o + k, none⟩ = some (.int .i64 x)) := Lib.hid ⟨HK.out.trans (KB.setCells _), fun k x hk => by
          have hki : k < i := by
            have h9 := (List.getElem?_eq_some_iff.1 hk).1
            rw [← HIL.out] at h9
            exact h9
          rw [World.cell?_setCells_out b _ _ wr ⟨b, o + k, none⟩ (fun _ _ => by simp; omega)]
          exact HC1.out k x hk⟩
        have i5 : (0 : Int) ≤ (i : Int) := by omega
        have i6 : (i : Int) ≤ (j : Int) := by omega
        have i7 : (j : Int) ≤ (c : Int) := by omega
        have i8 : (i : Int) ≤ (c : Int) := by omega
        clear hzs hzl hone hws hlt hjn
        generalize wr.setCells b (o + i) zs = w9 at *
        go_wp2
        go_ret
        have h9 := HEND.out.2
        rw [HFULL.out] at h9
        refine ⟨?_, h9, HEND.out.1⟩
        rw [HIL.out, HFULL.out]
        rfl
/-- What IndexFunc tells: the first of which P holds; -1: of none. -/
def IdxLPost (P : (Nat × Nat × Nat) → Bool) (us : List (Nat × Nat × Nat)) (W : World) (e : Ending) (w' : World) : Prop :=
  Below W.heap.size W w' ∧ ∃ i, i ≤ us.length ∧ (us.take i).filter (fun x => !P x) = us.take i ∧ (i = us.length → e = .returned (.int .i64 (-1))) ∧ (i < us.length → e = .returned (.int .i64 i) ∧ ∃ x, us[i]? = some x ∧ P x = true)
set_option maxHeartbeats 1600000 in
theorem idxL (P : (Nat × Nat × Nat) → Bool) (us : List (Nat × Nat × Nat)) (b o c n : Nat)  (W : World) (hn : us.length = n) (hn5 : n ≤ 100000) (hb : b < W.heap.size) (hA : ∀ (i : Nat) (x : (Nat × Nat × Nat)), us[i]? = some x → W.cell? ⟨b, o + i, none⟩ = some (.slice (some ⟨x.1, 0, none⟩) x.2.1 x.2.2))
    (hP : ∀ w' : World, KB b W w' → ∀ x ∈ us, Calls Try.prog 18 #[.slice (some ⟨x.1, 0, none⟩) x.2.1 x.2.2] w' fun e w'' => e = .returned (.bool (P x)) ∧ Below w'.heap.size w' w'') :
    Calls Try.prog 22 #[.slice (some ⟨b, o, none⟩) n c, .func (.func 18) #[] #[]] W (IdxLPost P us W) := by
  have HA := Lib.hid hA
  have HP := Lib.hid hP
  have HN := Lib.hid hn
  have HBW := Lib.hid hb
  clear hA hP hn hb
  go_enter Try.func22, Try.ntmps22
  go_wp2_with fail
  go_loopw [8] (fun v8 wr => ∃ i : Nat, i ≤ n ∧ v8 = .int .i64 i ∧ Hid (Below W.heap.size W wr) ∧ Hid ((us.take i).filter (fun x => !P x) = us.take i)) (fun v8 _ => n - (intOf v8).toNat)
  case atStart => exact ⟨0, by omega, rfl, Lib.hid (Below.refl _ _), Lib.hid rfl⟩
  case round =>
    obtain ⟨i, hi, rfl, HW, HT⟩ := hrel
    by_cases hlt : i < n
    · obtain ⟨x, hx⟩ : ∃ x, us[i]? = some x := ⟨us[i]'(by have := HN.out; omega), List.getElem?_eq_getElem _⟩
      have ci := (HW.out.cell (p := ⟨b, o + i, none⟩) HBW.out).trans (HA.out i x hx)
      have hcall := HP.out wr (KB.of_below HW.out HBW.out) x (List.mem_of_getElem? hx)
      have HX := Lib.hid hx
      have HF := Lib.hid (filter_next (P := P) hx)
      have HTN : Hid (us.take (i + 1) = us.take i ++ [x]) := Lib.hid (by rw [List.take_add_one, hx]; rfl)
      have HC := Lib.hid hcall
      clear hx hcall
      have i1 : (i : Int) < (n : Int) := by omega
      have i2 : (0 : Int) ≤ (i : Int) := by omega
      obtain ⟨B, hB⟩ : ∃ B, P x = B := ⟨_, rfl⟩
      have HBB := Lib.hid hB
      skip
      go_wp2_with fail
      refine HC.out.mono ?_
      rintro e w2 ⟨rfl, hb2⟩
      have HB2 : Hid (Below W.heap.size W w2) := Lib.hid (thn HW.out hb2)
      rw [hB]
      clear hb2 ci hB HC
      cases B with
      | true =>
        go_wp2
        go_ret
        refine ⟨HB2.out, i, by have := HN.out; omega, HT.out, fun h => ?_, fun _ => ⟨rfl, _, HX.out, HBB.out⟩⟩
        have := HN.out
        omega
      | false =>
        go_wp2_with fail
        go_roundw
        case rel => exact ⟨i + 1, by omega, by go_num, HB2, Lib.hid (by rw [HF.out, HTN.out, HT.out, HBB.out]; rfl)⟩
        case measure => simp [intOf]; omega
    · obtain rfl : i = n := by omega
      have i1 : ¬ (i : Int) < (i : Int) := by omega
      go_wp2
      go_ret
      exact ⟨HW.out, i, by have := HN.out; omega, HT.out, fun _ => rfl, fun h => by have := HN.out; omega⟩
def DelLPost (P : (Nat × Nat × Nat) → Bool) (us : List (Nat × Nat × Nat)) (b o c : Nat) (W : World) (e : Ending) (w' : World) : Prop :=
  e = .returned (.slice (some ⟨b, o, none⟩) (us.filter (fun x => !P x)).length c) ∧ (∀ (i : Nat) (x : (Nat × Nat × Nat)), (us.filter (fun x => !P x))[i]? = some x → w'.cell? ⟨b, o + i, none⟩ = some (.slice (some ⟨x.1, 0, none⟩) x.2.1 x.2.2)) ∧ KB b W w'
set_option maxHeartbeats 3200000 in
theorem delL (P : (Nat × Nat × Nat) → Bool) (us : List (Nat × Nat × Nat)) (b o c n : Nat)  (W : World) (hn : us.length = n) (hn5 : n ≤ 100000) (hnc : n ≤ c) (hc9 : c ≤ 9223372036854775807) (hb : b < W.heap.size) (hA : ∀ (i : Nat) (x : (Nat × Nat × Nat)), us[i]? = some x → W.cell? ⟨b, o + i, none⟩ = some (.slice (some ⟨x.1, 0, none⟩) x.2.1 x.2.2)) (hf : ∀ i, i < n → W.frozen? ⟨b, o + i, none⟩ = false)
    (hP : ∀ w' : World, KB b W w' → ∀ x ∈ us, Calls Try.prog 18 #[.slice (some ⟨x.1, 0, none⟩) x.2.1 x.2.2] w' fun e w'' => e = .returned (.bool (P x)) ∧ Below w'.heap.size w' w'') :
    Calls Try.prog 17 #[.slice (some ⟨b, o, none⟩) n c, .func (.func 18) #[] #[]] W (DelLPost P us b o c W) := by
  have HI := Lib.hid (idxL P us b o c n  W hn hn5 hb hA hP)
  have HA := Lib.hid hA
  have HP := Lib.hid hP
  have HN := Lib.hid hn
  have HBW := Lib.hid hb
  have HFZ := Lib.hid hf
  clear hA hP hn hb hf
  go_enter Try.func17, Try.ntmps17
  go_wp2_with fail
  refine HI.out.mono ?_
  rintro e w1 ⟨hb1, i0, hi0, hfi, hend, hin⟩
  have HB1 := Lib.hid hb1
  have HFI := Lib.hid hfi
  clear hb1 hfi HI
  by_cases hlt0 : i0 = n
  · obtain rfl := hend (by have := HN.out; omega)
    clear hend hin
    have HALL : Hid (us.filter (fun x => !P x) = us) := Lib.hid (by
      have h := HFI.out
      rw [hlt0, ← HN.out, List.take_length] at h
      exact h)
    clear hlt0
    go_wp2_with fail
    go_ret
    refine ⟨?_, ?_, KB.of_below HB1.out HBW.out⟩
    · rw [HALL.out, HN.out]
      rfl
    · rw [HALL.out]
      intro i x hx
      exact (HB1.out.cell (p := ⟨b, o + i, none⟩) HBW.out).trans (HA.out i x hx)
  · obtain ⟨rfl, x0, hx0, hPx0⟩ := hin (by have := HN.out; omega)
    clear hend hin
    have hi0n : i0 < n := by have := HN.out; omega
    have hm1 : ¬ (i0 : Int) = -1 := by omega
    have hm2 : ((i0 : Int) == -1) = false := beq_false_of_ne hm1
    have HX0 : Hid ((us.take (i0 + 1)).filter (fun x => !P x) = us.take i0) := Lib.hid (by rw [filter_next (P := P) hx0, HFI.out, hPx0]; simp)
    clear hx0 hPx0 hlt0 hi0
    go_wp2_with fail
    go_loopw [5, 6] (fun v5 v6 wr => ∃ i j : Nat, v5 = .int .i64 i ∧ v6 = .int .i64 j ∧ i < j ∧ j ≤ n ∧ i = ((us.take j).filter (fun x => !P x)).length ∧ Hid (∀ (k : Nat) (x : (Nat × Nat × Nat)), ((us.take j).filter (fun x => !P x))[k]? = some x → wr.cell? ⟨b, o + k, none⟩ = some (.slice (some ⟨x.1, 0, none⟩) x.2.1 x.2.2)) ∧ Hid (∀ (k : Nat) (x : (Nat × Nat × Nat)), j ≤ k → us[k]? = some x → wr.cell? ⟨b, o + k, none⟩ = some (.slice (some ⟨x.1, 0, none⟩) x.2.1 x.2.2)) ∧ Hid (KB b W wr))
      (fun _ v6 _ => n - (intOf v6).toNat)
    case atStart =>
      refine ⟨i0, i0 + 1, rfl, by go_num, by omega, by omega, ?_, Lib.hid (fun k x hk => ?_), Lib.hid (fun k x _ hk => (HB1.out.cell (p := ⟨b, o + k, none⟩) HBW.out).trans (HA.out k x hk)), Lib.hid (KB.of_below HB1.out HBW.out)⟩
      · rw [HX0.out, List.length_take]
        have := HN.out
        omega
      · rw [HX0.out] at hk
        have hk2 : us[k]? = some x := by
          rw [List.getElem?_take] at hk
          split at hk
          · exact hk
          · cases hk
        exact (HB1.out.cell (p := ⟨b, o + k, none⟩) HBW.out).trans (HA.out k x hk2)
    case round =>
      obtain ⟨i, j, rfl, rfl, hij, hjn, hil, HC1, HC2, HK⟩ := hrel
      have HIL := Lib.hid hil
      clear hil
      by_cases hlt : j < n
      · obtain ⟨x, hx⟩ : ∃ x, us[j]? = some x := ⟨us[j]'(by have := HN.out; omega), List.getElem?_eq_getElem _⟩
        have cj := HC2.out j x (Nat.le_refl _) hx
        have HC := Lib.hid (HP.out wr HK.out x (List.mem_of_getElem? hx))
        have HF := Lib.hid (filter_next (P := P) hx)
        clear hx
        have i1 : (j : Int) < (n : Int) := by omega
        have i2 : (0 : Int) ≤ (j : Int) := by omega
        have i3 : (i : Int) < (n : Int) := by omega
        have i4 : (0 : Int) ≤ (i : Int) := by omega
        obtain ⟨B, hB⟩ : ∃ B, P x = B := ⟨_, rfl⟩
        have HBB := Lib.hid hB
        skip
        go_wp2_with fail
        refine HC.out.mono ?_
        rintro e w2 ⟨rfl, hb2⟩
        have HB2 := Lib.hid hb2
        have HK2 : Hid (KB b W w2) := Lib.hid (HK.out.trans (KB.of_below hb2 (Nat.lt_of_lt_of_le HBW.out HK.out.1)))
        have hbr : b < wr.heap.size := Nat.lt_of_lt_of_le HBW.out HK.out.1
        have HC3 : Hid (∀ (k : Nat) (x : (Nat × Nat × Nat)), ((us.take j).filter (fun x => !P x))[k]? = some x → w2.cell? ⟨b, o + k, none⟩ = some (.slice (some ⟨x.1, 0, none⟩) x.2.1 x.2.2)) := Lib.hid (fun k x hk => (hb2.cell (p := ⟨b, o + k, none⟩) hbr).trans (HC1.out k x hk))
        have HC4 : Hid (∀ (k : Nat) (x : (Nat × Nat × Nat)), j ≤ k → us[k]? = some x → w2.cell? ⟨b, o + k, none⟩ = some (.slice (some ⟨x.1, 0, none⟩) x.2.1 x.2.2)) := Lib.hid (fun k x hj hk => (hb2.cell (p := ⟨b, o + k, none⟩) hbr).trans (HC2.out k x hj hk))
        have fi : w2.frozen? ⟨b, o + i, none⟩ = false := (HK2.out.2.2.2.1 _).trans (HFZ.out i (by omega))
        have si : (w2.cell? ⟨b, o + i, none⟩).isSome = true := HK2.out.2.2.1 _ (by
          rw [HA.out i _ (List.getElem?_eq_getElem (show i < us.length by have := HN.out; omega))]
          rfl)
        obtain ⟨ui, hui⟩ := Option.isSome_iff_exists.1 si
        rw [hB]
        clear hb2 cj hB HC si HC1 HC2 HK hbr
        cases B with
        | true =>
          go_wp2_with fail
          go_roundw
          case rel => exact ⟨i, j + 1, rfl, by go_num, by omega, by omega, by rw [HF.out, HBB.out, HIL.out]; simp, Lib.hid (by rw [HF.out, HBB.out]; simpa using HC3.out), Lib.hid (fun k x hk => HC4.out k x (by omega)), HK2⟩
          case measure => simp [intOf]; omega
        | false =>
          go_wp2_with fail
          go_roundw
          case rel =>
            refine ⟨i + 1, j + 1, by go_num, by go_num, by omega, by omega, by rw [HF.out, HBB.out]; simp [← HIL.out], Lib.hid (fun k y hk => ?_), Lib.hid (fun k y hk hy => ?_), Lib.hid (HK2.out.trans (KB.setCell _))⟩
            · rw [HF.out, HBB.out] at hk
              simp only [Bool.false_eq_true, if_false] at hk
              by_cases hki : k < i
              · rw [List.getElem?_append_left (by rw [← HIL.out]; exact hki)] at hk
                rw [World.cell?_setCell_other _ _ _ _ (by intro e; injection e with _ e2 _; omega)]
                exact HC3.out k y hk
              · rw [List.getElem?_append_right (by rw [← HIL.out]; omega), ← HIL.out] at hk
                have hki2 : k - i = 0 := by
                  have := (List.getElem?_eq_some_iff.1 hk).1
                  simp at this
                  omega
                rw [hki2] at hk
                obtain rfl : _ = y := by simpa using hk
                obtain rfl : k = i := by omega
                exact World.cell?_setCell_same _ _ _ hui
            · rw [World.cell?_setCell_other _ _ _ _ (by intro e; injection e with _ e2 _; omega)]
              exact HC4.out k y (by omega) hy
          case measure => simp [intOf]; omega
      · obtain rfl : j = n := by omega
        have i1 : ¬ (j : Int) < (j : Int) := by omega
        have hic : ¬ c = i := by omega
        have hic2 : i ≤ c := by omega
        have hin2 : i ≤ j := by omega
        have HFULL : Hid ((us.take j) = us) := Lib.hid (by rw [← HN.out, List.take_length])
        have hnp : 0 < j - i := by omega
        have hzl : (Builtin.zeroCells (Value.cells (.slice none 0 0)) (j - i)).toList.length = j - i := zeros_len _ rfl _
        have hone : ∀ u ∈ (Builtin.zeroCells (Value.cells (.slice none 0 0)) (j - i)).toList, u.oneCell' = true := fun u hu => zero_one _ rfl rfl _ u hu
        have hws : ∀ k, k < j → (wr.cell? ⟨b, o + k, none⟩).isSome = true ∧ wr.frozen? ⟨b, o + k, none⟩ = false := fun k hk => ⟨HK.out.2.2.1 _ (by
          rw [HA.out k _ (List.getElem?_eq_getElem (show k < us.length by have := HN.out; omega))]
          rfl), (HK.out.2.2.2.1 _).trans (HFZ.out k hk)⟩
        obtain ⟨zs, hzs⟩ : ∃ zs, (Builtin.zeroCells (Value.cells (.slice none 0 0)) (j - i)).toList = zs := ⟨_, rfl⟩
        have hcl2 : ∀ ty, (Builtin.clear_ #[25] ty #[.slice (some ⟨b, o + i, none⟩) (j - i) (c - i)]).run Try.prog wr = .ok (.tuple #[]) (wr.setCells b (o + i) zs) := fun ty => by
          refine run_clear_any wr _ _ ty _ Try.underlying25 Try.zeroValue26 b _ (j - i) _ _ hzs (by rw [← hzs]; exact hone) hnp (fun k hk => ?_) (fun k hk => ?_)
          · rw [Nat.add_assoc]; exact (hws (i + k) (by rw [← hzs, hzl] at hk; omega)).1
          · rw [Nat.add_assoc]; exact (hws (i + k) (by rw [← hzs, hzl] at hk; omega)).2
        have HEND : Hid (KB b W (wr.setCells b (o + i) zs) ∧ ∀ (k : Nat) (x : (Nat × Nat × Nat)), ((us.take j).filter (fun x => !P x))[k]? = some x → (wr.setCells b (o + i) zs).cell? ⟨b, o + k, none⟩ = some (.slice (some ⟨x.1, 0, none⟩) x.2.1 x.2.2)) := Lib.hid ⟨HK.out.trans (KB.setCells _), fun k x hk => by
          have hki : k < i := by
            have h9 := (List.getElem?_eq_some_iff.1 hk).1
            rw [← HIL.out] at h9
            exact h9
          rw [World.cell?_setCells_out b _ _ wr ⟨b, o + k, none⟩ (fun _ _ => by simp; omega)]
          exact HC1.out k x hk⟩
        have i5 : (0 : Int) ≤ (i : Int) := by omega
        have i6 : (i : Int) ≤ (j : Int) := by omega
        have i7 : (j : Int) ≤ (c : Int) := by omega
        have i8 : (i : Int) ≤ (c : Int) := by omega
        clear hzs hzl hone hws hlt hjn
        generalize wr.setCells b (o + i) zs = w9 at *
        go_wp2
        go_ret
        have h9 := HEND.out.2
        rw [HFULL.out] at h9
        refine ⟨?_, h9, HEND.out.1⟩
        rw [HIL.out, HFULL.out]
        rfl
end Go.Proofs.Ytokdjonnblbegaa
