/- Count of tags that are there. -/
import Derived.Test.YtgjahmdfkbdcpaaTagsA
import Derived.Deep.MidRow
import Derived.ChangeKeysEq
import Derived.Deep.DeepCutAuto
namespace Go.Proofs.Ytgjahmdfkbdcpaa
open Go.RowKit
set_option linter.unusedVariables false
set_option linter.unusedSimpArgs false

/-- How many of the first n numbers have the tag k. -/
def cntF (f : Nat → Nat) (k : Nat) : Nat → Nat
  | 0 => 0
  | n + 1 => cntF f k n + if f n = k then 1 else 0
theorem cntF_le (f : Nat → Nat) (k n : Nat) : cntF f k n ≤ n := by
  induction n with
  | zero => exact Nat.le_refl _
  | succ n ih => rw [cntF]; split <;> omega
/-- A row of K ints at block r. -/
def RowI (r K : Nat) (W : World) (c : Nat → Nat) : Prop :=
  r < W.heap.size ∧ ∀ k, k < K → W.cell? ⟨r, k, none⟩ = some (.int .i64 (c k : Int)) ∧ W.frozen? ⟨r, k, none⟩ = false
theorem sizeSet (W : World) (p : Addr) (v : Value) : (W.setCell p v).heap.size = W.heap.size := by simp [World.setCell]
theorem RowI.up {r K x : Nat} {W : World} {c c' : Nat → Nat} {v : Int} (h : RowI r K W c) (hx : x < K) (hv : v = (c' x : Nat)) (hc : ∀ k, k ≠ x → c' k = c k) : RowI r K (W.setCell ⟨r, x, none⟩ (.int .i64 v)) c' := by
  refine ⟨by rw [sizeSet]; exact h.1, fun i hi => ?_⟩
  obtain ⟨k1, k2⟩ := h.2 i hi
  refine ⟨?_, by simp [k2]⟩
  by_cases e : x = i
  · subst e
    rw [World.cell?_setCell_same _ _ _ k1, hv]
  · rw [World.cell?_setCell_other _ _ _ _ (by intro q; injection q with _ q; exact e q), k1, hc i (fun q => e q.symm)]
theorem RowI.keep {r K : Nat} {W W' : World} {c : Nat → Nat} (h : RowI r K W c) (hs : W.heap.size ≤ W'.heap.size) (hk : W'.heap[r]? = W.heap[r]?) : RowI r K W' c := by
  refine ⟨Nat.lt_of_lt_of_le h.1 hs, fun i hi => ?_⟩
  obtain ⟨h1, h2⟩ := h.2 i hi
  exact ⟨(World.cell?_of_block hk).trans h1, (World.frozen?_of_block hk).trans h2⟩
theorem RowI.below {r K : Nat} {W W' : World} {c : Nat → Nat} (h : RowI r K W c) (hb : Below W.heap.size W W') : RowI r K W' c := h.keep hb.size (hb.block r h.1)
theorem RowI.same {r K : Nat} {W : World} {c c' : Nat → Nat} (h : RowI r K W c) (hc : ∀ k, k < K → c' k = c k) : RowI r K W c' := ⟨h.1, fun i hi => by rw [hc i hi]; exact h.2 i hi⟩
abbrev CntAt (r : Nat) (W : World) (c : Nat → Nat) : Prop := RowI r 16 W c
def cntL (c : Nat → Nat) : List Value := (List.range 16).map fun k => .int .i64 (c k : Int)
theorem cntL_len (c : Nat → Nat) : (cntL c).length = 16 := by simp [cntL]
theorem cntL_at {c : Nat → Nat} {j : Nat} {v : Value} (h : (cntL c)[j]? = some v) : j < 16 ∧ v = .int .i64 (c j : Int) := by
  have hj : j < 16 := by
    have := (List.getElem?_eq_some_iff.1 h).1
    rw [cntL_len] at this; exact this
  refine ⟨hj, ?_⟩
  rw [cntL, List.getElem?_map, List.getElem?_range hj] at h
  exact (Option.some.inj h).symm
theorem RowI.range {r : Nat} {W : World} {c : Nat → Nat} (h : RowI r 16 W c) : W.rangeAt r 0 (cntL c) := fun j v hv => by
  obtain ⟨hj, rfl⟩ := cntL_at hv
  rw [Nat.zero_add]; exact (h.2 j hj).1
theorem RowI.there {r : Nat} {W : World} {c : Nat → Nat} (h : RowI r 16 W c) : W.there r 0 16 := fun j hj => by
  rw [Nat.zero_add, (h.2 j hj).1]; exact ⟨rfl, (h.2 j hj).2⟩
theorem cntL_one (c : Nat → Nat) : (cntL c).toArray.all (·.oneCell') = true := all_oneCell_toArray fun v hv => by
  obtain ⟨k, _, rfl⟩ := List.mem_map.1 hv
  rfl
theorem cntInfo : (Try.prog.info? 28).map (·.size) = some 16 := by kernel_rfl
theorem cnt_load {r : Nat} {W : World} {c : Nat → Nat} (h : CntAt r W c) : (Instr.loadAt 28 (.pointer (some ⟨r, 0, none⟩))).run Try.prog W = .ok (.agg (cntL c).toArray) W :=
  run_loadAt_mid W r 0 28 (cntL c) _ h.range Try.underlying28 rfl (by rw [cntL_len]; exact cntInfo)
theorem cnt_store {r : Nat} {W : World} {c c0 : Nat → Nat} (h : CntAt r W c0) : (Instr.storeAt 28 (.pointer (some ⟨r, 0, none⟩)) (.agg (cntL c).toArray)).run Try.prog W = .ok () (W.setCells r 0 (cntL c)) :=
  run_storeAt_mid W r 0 28 (cntL c).toArray (by rw [List.size_toArray, cntL_len]; exact h.there) (by rw [List.size_toArray, cntL_len]; exact cntInfo) (cntL_one c)
theorem results_cell_mid {P : Program} {fn : Func} {p : Tmp} {ty : TypeId} (h : fn.results = #[.cell p ty]) (tmps : Array Value) (w : World) (g : Nat) (cs : List Value) (d : TypeDesc)
    (hp : tmps.getD p undef = .pointer (some ⟨g, 0, none⟩)) (hc : w.rangeAt g 0 cs)
    (hu : P.underlying ty = some d) (hd : d.isRow = true) (hi : (P.info? ty).map (·.size) = some cs.length) :
    (results fn tmps).run P w = .ok (.agg cs.toArray) w := by
  have hp' : tmps[p]?.getD undef = .pointer (some ⟨g, 0, none⟩) := by simpa using hp
  simp [results, h, hp', asAddr, run_loadVar_mid w g 0 ty cs d hc hu hd hi]

/-- The bytes of tags. -/
def tagL (f : Nat → Nat) : List Value := (List.range 8192).map fun i => .int .u8 ((f (2 * i) + 16 * f (2 * i + 1) : Nat) : Int)
theorem tagL_len (f : Nat → Nat) : (tagL f).length = 8192 := by rw [tagL, List.length_map, List.length_range]
theorem tagL_get (f : Nat → Nat) {i : Nat} (h : i < 8192) : (tagL f)[i]? = some (.int .u8 ((f (2 * i) + 16 * f (2 * i + 1) : Nat) : Int)) := by
  rw [tagL, List.getElem?_map, List.getElem?_range h]; rfl
theorem TagIs.range {p : Nat} {W : World} {f : Nat → Nat} (h : TagIs p W f) : W.rangeAt p 0 (tagL f) := fun j v hv => by
  have hj : j < 8192 := by
    have := (List.getElem?_eq_some_iff.1 hv).1
    rw [tagL_len] at this; exact this
  rw [tagL_get f hj] at hv
  rw [Nat.zero_add, (h.2.2 j hj).1, hv]
set_option maxRecDepth 1000000 in
theorem pairInfo : (Try.prog.info? 33).map (·.size) = some 8192 := by kernel_rfl
theorem tag_info (f : Nat → Nat) : (Try.prog.info? 33).map (·.size) = some (tagL f).length := by rw [tagL_len]; exact pairInfo
theorem lo15 (a b : Nat) (ha : a < 16) (hb : b < 16) : bits .and .u8 ((a : Int) + 16 * b) 15 = a := by
  have all : ∀ a b : Fin 16, bits .and .u8 ((a.val : Int) + 16 * b.val) 15 = a.val := by decide +kernel
  exact all ⟨a, ha⟩ ⟨b, hb⟩
theorem cntZero (r : Nat) (W W' : World) (h : r < W'.heap.size) (hc : ∀ k, k < 16 → W'.cell? ⟨r, k, none⟩ = some (.int .i64 0) ∧ W'.frozen? ⟨r, k, none⟩ = false) : CntAt r W' (fun _ => 0) := ⟨h, fun k hk => hc k hk⟩

theorem tagGet {f : Nat → Nat} {i : Nat} (h : i < 8192) : (tagL f)[i]? = some (.int .u8 ((f (2 * i) : Int) + 16 * (f (2 * i + 1) : Int))) := by
  rw [tagL_get f h]; simp

theorem run_index_agg {P : Program} (w : World) (t e : TypeId) (n : Nat) (cs : Array Value) (k : IntKind) (i : Int) (v : Value) (h : P.underlying t = some (.array n e)) (ha : ∀ w, (isAgg e).run P w = .ok false w) (hs : ∀ w, (sizeOf e).run P w = .ok 1 w)
    (h0 : 0 ≤ i) (h1 : i < (n : Int)) (hv : cs[i.toNat]? = some v) : (Instr.index t (.agg cs) (.int k i)).run P w = .ok v w := by
  have hn : 0 ≤ i ∧ i < (n : Int) := ⟨h0, h1⟩
  simp [Instr.index, run_underlying h, asIntOf, hn, go_sem, part, ha, hs, hv]
theorem wpList_index_agg {P : Program} {ops : Array Oper} {rest : List Oper} {op : Oper} {a : Act} {w : World} {Q : Exit → Act → World → Prop} (hgd : op.guard = none) (t : TypeId) (x y : Operand) (ho : op.op = .index t x y)
    (cs : Array Value) (k : IntKind) (i : Int) (v : Value) (hx : a.eval x = .agg cs) (hy : a.eval y = .int k i) (hr : (Instr.index t (.agg cs) (.int k i)).run P w = .ok v w)
    (h : wpList P ops Q rest (a.put op.dst v) w) : wpList P ops Q (op :: rest) a w :=
  wpList_plain hgd fun _ hK => by
    unfold Oper.wp execOp
    simp only [ho, hx, hy, Sem.run_bind, Sem.run_pure, Result.andThen_ok, hr]
    exact hK _ _ h
theorem below_cells {B r : Nat} {W wr : World} (h : Below B W wr) (hB : B ≤ r) (vs : List Value) (o : Nat) : Below B W (wr.setCells r o vs) := by
  induction vs generalizing wr o with
  | nil => exact h
  | cons v vs ih => exact ih (h.setCell hB v) (o + 1)
set_option maxHeartbeats 1600000 in
theorem tcount (p : Nat) (f : Nat → Nat) (W : World) (H : TagIs p W f) :
    Calls Try.prog 10 #[.pointer (some ⟨p, 0, none⟩)] W fun e w' => e = .returned (.agg (cntL fun k => cntF f k 16384).toArray) ∧ Below W.heap.size W w' := by
  have HH := Lib.hid H
  have hp : p < W.heap.size := H.1
  have HF := Lib.hid H.2.1
  clear H
  go_enter Try.func10, Try.ntmps10
  go_upto_region 4 with (fail)
  obtain ⟨w2, hw2⟩ : ∃ w2 : World, ((W.alloc (.cells cntZ 28)).alloc (.cells cntZ 28)) = w2 := ⟨_, rfl⟩
  have hb2 : Below W.heap.size W w2 := by rw [← hw2]; exact alc (alc0 _ _) _
  have hs2 : w2.heap.size = W.heap.size + 2 := by rw [← hw2]; simp
  have hcz : ∀ k, k < 16 → cntZ[k]? = some (.int .i64 0) := fun k hk => by
    rw [show cntZ = Array.replicate 16 (.int .i64 0) from rfl]; simp [hk]
  have HR : Hid (RowI W.heap.size 16 w2 (fun _ => 0)) := Lib.hid (by
    rw [← hw2]
    refine ⟨by simp <;> omega, fun k hk => ⟨?_, by simp⟩⟩
    rw [World.cell?_alloc_lt _ _ _ (by simp), World.cell?_alloc_mark]; exact hcz k hk)
  have HC : Hid (RowI (W.heap.size + 1) 16 w2 (fun k => cntF f k (2 * 0))) := Lib.hid (by
    rw [← hw2]
    refine ⟨by simp, fun k hk => ⟨?_, by simp⟩⟩
    have e : W.heap.size + 1 = (W.alloc (.cells cntZ 28)).heap.size := by simp
    rw [e, World.cell?_alloc_mark]; exact hcz k hk)
  have HT2 : Hid (TagIs p w2 f) := Lib.hid (HH.out.below hb2)
  unfold cntZ at hw2
  rw [hw2]
  have HL := Lib.hid (HT2.out.range)
  have HG := Lib.hid (fun i (h : i < 8192) => tagGet (f := f) h)
  have HZ := Lib.hid (tag_info f)
  generalize tagL f = Tl at *
  clear hw2 hcz HH HT2
  obtain ⟨R, hR⟩ : ∃ R, W.heap.size = R := ⟨_, rfl⟩
  have hC : W.heap.size + 1 = R + 1 := by omega
  rw [hR] at HR HC hb2 hs2 hp ⊢
  go_wp2_with (refine wpList_load_mid rfl 33 (.tmp 11) rfl p 0 rfl Tl _ HL.out Try.underlying33 rfl HZ.out ?_)
  clear HL HZ
  go_loopw [13] (fun v13 wr => ∃ h : Nat, h ≤ 8192 ∧ v13 = .int .i64 (h : Nat) ∧ Hid (RowI (R + 1) 16 wr (fun k => cntF f k (2 * h))) ∧ Hid (RowI R 16 wr (fun _ => 0)) ∧ Hid (Below R W wr)) (fun v13 _ => 8192 - (intOf v13).toNat)
  case atStart => exact ⟨0, by omega, rfl, HC, HR, Lib.hid hb2⟩
  case round =>
    clear HC HR hb2
    obtain ⟨h, hh, rfl, HC, HR, HB⟩ := hrel
    by_cases hlt : h < 8192
    · have hg := HG.out h hlt
      have ha := HF.out (2 * h)
      have hb := HF.out (2 * h + 1)
      have HC2 : Hid (∀ k, cntF f k (2 * (h + 1)) = cntF f k (2 * h) + (if f (2 * h) = k then 1 else 0) + (if f (2 * h + 1) = k then 1 else 0)) := Lib.hid (fun k => by
        rw [show 2 * (h + 1) = 2 * h + 1 + 1 by omega, cntF, cntF])
      obtain ⟨N, hN⟩ : ∃ N, cntF f (f (2 * h)) (2 * h) = N := ⟨_, rfl⟩
      have hNl : N ≤ 16384 := by rw [← hN]; have := cntF_le f (f (2 * h)) (2 * h); omega
      obtain ⟨M, hM⟩ : ∃ M, cntF f (f (2 * h + 1)) (2 * h) + (if f (2 * h) = f (2 * h + 1) then 1 else 0) = M := ⟨_, rfl⟩
      have hMl : M ≤ 16385 := by rw [← hM]; have := cntF_le f (f (2 * h + 1)) (2 * h); split <;> omega
      obtain ⟨k1, k2⟩ := HC.out.2 (f (2 * h)) ha
      have HU1 := HC.out.up (c' := fun k => cntF f k (2 * h) + (if f (2 * h) = k then 1 else 0)) (v := (N : Int) + 1) ha (by rw [if_pos rfl, hN]; omega) (fun k hk => by rw [if_neg (fun e => hk e.symm)]; rfl)
      obtain ⟨k3, k4⟩ := HU1.2 (f (2 * h + 1)) hb
      dsimp only at k1 k3
      rw [hN] at k1
      rw [hM] at k3
      have HU2 := Lib.hid (HU1.up (c' := fun k => cntF f k (2 * (h + 1))) (v := (M : Int) + 1) hb (by rw [HC2.out, ← hM]; rw [if_pos rfl]; omega) (fun k hk => by rw [HC2.out, if_neg (c := f (2 * h + 1) = k) (fun e => hk e.symm)]; rfl))
      clear HU1 HC2 hN hM
      generalize f (2 * h) = a at *
      generalize f (2 * h + 1) = b at *
      have e1 := lo15 a b ha hb
      have z0 : (0 : Int) ≤ (h : Int) := by omega
      have z1 : (h : Int) < 8192 := by omega
      have z2 : (h : Int).toNat = h := Int.toNat_natCast h
      have HIX : Hid ((Instr.index 33 (.agg Tl.toArray) (.int .i64 (h : Int))).run Try.prog wr = .ok (.int .u8 ((a : Int) + 16 * (b : Int))) wr) := Lib.hid (run_index_agg wr _ 5 8192 _ _ _ _ Try.underlying33 Try.isAgg5 Try.sizeOf5 (by omega) (by omega) (by rw [Int.toNat_natCast, List.getElem?_toArray]; exact hg))
      clear hg
      have gw1 : IntKind.i64.wrap (h : Int) = h := IntWalk.i64_in _ (by omega)
      have gw2 : IntKind.i64.wrap ((h : Int) + 1) = h + 1 := IntWalk.i64_in _ (by omega)
      have gw3 : IntKind.i64.wrap ((N : Int) + 1) = N + 1 := IntWalk.i64_in _ (by omega)
      have gw4 : IntKind.i64.wrap ((M : Int) + 1) = M + 1 := IntWalk.i64_in _ (by omega)
      have gw5 : IntKind.i64.wrap (a : Int) = a := IntWalk.i64_in _ (by omega)
      have gw6 : IntKind.i64.wrap (b : Int) = b := IntWalk.i64_in _ (by omega)
      have HHB := Lib.hid hh; have HHL := Lib.hid hlt; have HNM := Lib.hid (And.intro hNl hMl)
      clear hh hlt hNl hMl
      have a0 : (0 : Int) ≤ (a : Int) := by omega
      have a1 : (a : Int) < 16 := by omega
      have a2 : (a : Int).toNat = a := Int.toNat_natCast a
      have b0 : (0 : Int) ≤ (b : Int) := by omega
      have b1 : (b : Int) < 16 := by omega
      have b2 : (b : Int).toNat = b := Int.toNat_natCast b
      go_upto_region 7 with (refine wpList_index_agg rfl 33 (.tmp 12) (.tmp 13) rfl _ _ _ _ rfl rfl HIX.out ?_)
      clear HIX
      go_upto_region 8 with (fail)
      have e2 : ((a : Int) + 16 * b) / 16 = b := by omega
      go_wp2_with fail
      go_roundw
      case rel => exact ⟨h + 1, by have := HHL.out; omega, by go_num, HU2, Lib.hid (HR.out.keep (by rw [sizeSet, sizeSet]; exact Nat.le_refl _) ((Below.heap_setCell _ _ _ _ (by simp)).trans (Below.heap_setCell _ _ _ _ (by simp)))), Lib.hid ((HB.out.setCell (by simp) _).setCell (by simp) _)⟩
      case measure => (have := HHL.out; simp [intOf]; omega)
    · obtain rfl : h = 8192 := by omega
      obtain ⟨Cl, hCl⟩ : ∃ Cl, cntL (fun k => cntF f k (2 * 8192)) = Cl := ⟨_, rfl⟩
      have hlen : Cl.length = 16 := by rw [← hCl, cntL_len]
      have HCR := Lib.hid (HC.out.range)
      rw [hCl] at HCR
      have HI1 : Hid ((Try.prog.info? 28).map (·.size) = some Cl.length) := Lib.hid (by rw [hlen]; exact cntInfo)
      have HI2 : Hid ((Try.prog.info? 28).map (·.size) = some Cl.toArray.size) := Lib.hid (by rw [List.size_toArray, hlen]; exact cntInfo)
      have HO : Hid (Cl.toArray.all (·.oneCell') = true) := Lib.hid (by rw [← hCl]; exact cntL_one _)
      have HTh : Hid (wr.there R 0 Cl.toArray.size) := Lib.hid (by rw [List.size_toArray, hlen]; exact HR.out.there)
      have HLast : Hid (Ending.returned (.agg Cl.toArray) = Ending.returned (.agg (cntL fun k => cntF f k 16384).toArray) ∧ Below W.heap.size W (wr.setCells R 0 Cl)) := Lib.hid ⟨by rw [← hCl], by rw [hR]; exact below_cells HB.out (Nat.le_refl _) Cl 0⟩
      have hth : Hid (wr.there R 0 Cl.length) := Lib.hid (by rw [hlen]; exact HR.out.there)
      clear hlen hCl HC HR HB HG HF hs2
      go_wp2_with (first | refine wpList_load_mid rfl 28 (.tmp 3) rfl (R + 1) 0 rfl Cl _ HCR.out Try.underlying28 rfl HI1.out ?_ | refine wpList_store_mid rfl 28 (.tmp 2) (.tmp 29) rfl R 0 Cl.toArray rfl rfl HTh.out HI2.out HO.out ?_)
      refine bodyPost_ret (results_cell_mid rfl _ _ R Cl _ rfl (World.rangeAt_setCells_same _ _ _ _ hth.out) Try.underlying28 rfl HI1.out) rfl HLast.out
end Go.Proofs.Ytgjahmdfkbdcpaa
