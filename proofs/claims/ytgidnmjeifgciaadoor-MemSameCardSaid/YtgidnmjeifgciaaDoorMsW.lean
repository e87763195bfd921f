/- The walk of MemSame. -/
import Derived.Test.YtgidnmjeifgciaaDoorMsG
import Derived.Test.YtgidnmjeifgciaaDoorMsI
import Derived.Deep.RegionHeld3
import Derived.Deep.DeepCutAuto
namespace Go.Proofs.YtgidnmjeifgciaaDoor
set_option maxRecDepth 100000
open Go.RowKit Go.ChangeMaps Go.MapKept
set_option linter.unusedVariables false
set_option linter.unusedSimpArgs false

theorem wpList_load_gd9 {P : Program} {ops : Array Oper} {rest : List Oper} {op : Oper} {a : Act} {w : World} {Q : Exit → Act → World → Prop} (hw : Region.wanted op (yielded ops a.tmps) = true) (ty : TypeId) (x : Operand) (ho : op.op = .load ty x)
    (b o : Nat) (hx : a.eval x = .pointer (some ⟨b, o, none⟩)) (cs : List Value) (d : TypeDesc) (hc : w.rangeAt b o cs)
    (hu : P.underlying ty = some d) (hd : d.isRow = true) (hi : (P.info? ty).map (·.size) = some cs.length)
    (h : wpList P ops Q rest (a.put op.dst (.agg cs.toArray)) w) : wpList P ops Q (op :: rest) a w :=
  wpList_step fun K hK => by
    rw [if_pos hw]
    exact wp_load_mid ty x ho b o hx cs d hc hu hd hi (hK _ _ h)
theorem tagI4 {σ : MS} (h : ∀ y, σ.pg y = decide (y < 4)) {a : Nat} (ha : a < 1024) : tagI σ (a : Int) = (σ.f (a / 16) : Int) := by
  unfold tagI
  rw [pg4_yes h (by omega) (by decide) (by omega), if_pos rfl, show ((a : Int) / 16).toNat = a / 16 by omega]
theorem t_unlike {σ : MS} (hp : ∀ y, σ.pg y = decide (y < 4)) {a u t : Nat} (ha : a < 1024) (hu : σ.f (a / 16) = u) (ht : (u + 1) % 16 = t) :
    (false = true ↔ ∀ p, σ.pg p = true → ∀ g, g < 16 → σ.f (16 * p + g) = (setF σ.f (grF (a : Int)) (grN (a : Int) 1) t) (16 * p + g)) := by
  refine ⟨fun h => Bool.noConfusion h, fun h => ?_⟩
  exfalso
  have := h (a / 256) (by rw [hp]; exact decide_eq_true (by omega)) (a / 16 % 16) (by omega)
  rw [show 16 * (a / 256) + a / 16 % 16 = a / 16 by omega, hu] at this
  unfold setF at this
  rw [if_pos (by unfold grF grN; omega)] at this
  omega
set_option maxHeartbeats 6400000 in
theorem msame_t (A1 A2 : Option Addr) (l1 l2 : List AV) (cp1 cp2 : Nat) (W : World) (hl1 : l1.length ≤ 9223372036854775807) (hl2 : l2.length ≤ 9223372036854775807) (hA1 : ACTS W A1 l1) (hA2 : ACTS W A2 l2) (ht : TzTab W) :
    Calls Tryd.prog 5 #[.slice A1 l1.length cp1, .slice A2 l2.length cp2] W fun e w' => e = .returned (.bool true) ∧ Below W.heap.size W w' := by
  have T := Lib.hid ht
  have HA1 := Lib.hid hA1
  have HA2 := Lib.hid hA2
  have HL1 := Lib.hid hl1
  have HL2 := Lib.hid hl2
  clear hA1 hA2 hl1 hl2 ht
  obtain ⟨zvv, zi⟩ := zero_of_info infoRz
  have zb := fun W : World => run_build (P := Tryd.prog) W 34 #[] zeroR.l.toArray builtM
  have zs1 := fun W : World => run_storeAt_new (P := Tryd.prog) W 34 zeroR.l.toArray zeroR.l.toArray (RS.infoA _) rfl (RS.one zeroR_one)
  have zs2 := fun W : World => run_storeCells_new (P := Tryd.prog) W 34 zeroR.l.toArray zeroR.l.toArray (RS.infoA _) rfl (RS.one zeroR_one)
  have HR2 := Lib.hid (fun W => RAt.new W zeroR 34)
  have hZs : zeroR.l.toArray.size = 3080 := by rw [List.size_toArray, RS.len]
  have hZ1 := RS.one zeroR_one
  have HCE := Lib.hid (fun (W : World) (x : Nat) (h : RAt x W zeroR) => (show RAt x (W.setCells x 0 zeroR.l.toArray.toList) zeroR from h.cells))
  generalize zeroR.l.toArray = Z at *
  go_enter Tryd.func5, Tryd.ntmps5
  go_wp2_with fail
  refine (w08awake _ T.out).mono ?_
  rintro e v0 ⟨rfl, hb0⟩
  have HB0 := Lib.hid hb0
  clear hb0
  go_wp2_with fail
  with_reducible refine Calls.mono (played_t A1 l1 cp1 v0 HL1.out (HA1.out.keep HB0.out) (T.out.later HB0.out)) ?_
  rintro e v1 ⟨M1, cl1, rfl, hm1, hb1⟩
  have HM1 := Lib.hid hm1
  have HB1 := Lib.hid hb1
  have HW1 : Hid (Below W.heap.size W v1) := Lib.hid (thn HB0.out hb1)
  clear hm1 hb1
  go_wp2_with fail
  with_reducible refine Calls.mono (played_t A1 l1 cp1 v1 HL1.out (HA1.out.keep HW1.out) (T.out.later HW1.out)) ?_
  rintro e v2 ⟨M2, cl2, rfl, hm2, hb2⟩
  have HPG := Lib.hid (runP_pg l1 (min l1.length 20))
  generalize runP l1 (min l1.length 20) = σ at *
  have HO1 : Hid (∀ i, cl1 i ≠ 0 → i < v1.heap.size) := Lib.hid (fun i hi => (HM1.out.own i hi).2)
  have HV : Hid (v0.heap.size ≤ v1.heap.size) := Lib.hid HB1.out.size
  have HWV : Hid (W.heap.size ≤ v1.heap.size) := Lib.hid HW1.out.size
  have HM2 := Lib.hid hm2
  have HM1' := Lib.hid (HM1.out.later hb2)
  have HW2 : Hid (Below W.heap.size W v2) := Lib.hid (thn HW1.out hb2)
  clear hm2 hb2 HM1 HB1 HW1
  have HZ : Hid (∀ y, 1024 ≤ y → σ.pg y = false) := Lib.hid (fun y hy => by rw [HPG.out]; exact decide_eq_false (by omega))
  go_wp2_with fail
  with_reducible refine Calls.mono (msame true v0.heap.size v1.heap.size cl1 cl2 M1 M2 σ σ v2 HM1'.out HM2.out rfl HZ.out (fun _ => rfl) rfl (fun _ _ _ _ => rfl) ⟨fun _ _ _ _ _ => rfl, fun _ => rfl⟩) ?_
  rintro e v3 ⟨rfl, hb3⟩
  have HM13 := Lib.hid (HM1'.out.later hb3)
  have HM23 := Lib.hid (HM2.out.later hb3)
  have HW3 : Hid (Below W.heap.size W v3) := Lib.hid (thn HW2.out hb3)
  clear hb3 HM1' HM2 HW2
  have HX0 : Hid (RAt v3.heap.size ((v3.alloc (.cells Z 34)).alloc (.cells Z 34)) zeroR ∧ RAt (v3.heap.size + 1) ((v3.alloc (.cells Z 34)).alloc (.cells Z 34)) zeroR) := Lib.hid ⟨(HR2.out v3).below (alc0 _ _), by
    have := HR2.out (v3.alloc (.cells Z 34))
    rwa [show (v3.alloc (.cells Z 34)).heap.size = v3.heap.size + 1 by simp] at this⟩
  have hob7 := ob_cells v3.heap.size Z.toList 0 ((v3.alloc (.cells Z 34)).alloc (.cells Z 34))
  have HX1 : Hid (RAt v3.heap.size (((v3.alloc (.cells Z 34)).alloc (.cells Z 34)).setCells v3.heap.size 0 Z.toList) zeroR ∧ RAt (v3.heap.size + 1) (((v3.alloc (.cells Z 34)).alloc (.cells Z 34)).setCells v3.heap.size 0 Z.toList) zeroR) := Lib.hid ⟨HCE.out _ _ HX0.out.1, HX0.out.2.keep (Nat.le_of_eq hob7.2.symm) (hob7.1.2.1 _ HX0.out.2.1 (by omega))⟩
  have hob8 := ob_cells (v3.heap.size + 1) Z.toList 0 (((v3.alloc (.cells Z 34)).alloc (.cells Z 34)).setCells v3.heap.size 0 Z.toList)
  have HX : Hid (RAt v3.heap.size ((((v3.alloc (.cells Z 34)).alloc (.cells Z 34)).setCells v3.heap.size 0 Z.toList).setCells (v3.heap.size + 1) 0 Z.toList) zeroR ∧ RAt (v3.heap.size + 1) ((((v3.alloc (.cells Z 34)).alloc (.cells Z 34)).setCells v3.heap.size 0 Z.toList).setCells (v3.heap.size + 1) 0 Z.toList) zeroR) := Lib.hid ⟨HX1.out.1.keep (Nat.le_of_eq hob8.2.symm) (hob8.1.2.1 _ HX1.out.1.1 (by omega)), HCE.out _ _ HX1.out.2⟩
  have HT7 : Hid (((v3.alloc (.cells Z 34)).alloc (.cells Z 34)).there v3.heap.size 0 Z.size) := Lib.hid (by rw [hZs]; exact HX0.out.1.there)
  have HT8 : Hid ((((v3.alloc (.cells Z 34)).alloc (.cells Z 34)).setCells v3.heap.size 0 Z.toList).there (v3.heap.size + 1) 0 Z.size) := Lib.hid (by rw [hZs]; exact HX1.out.2.there)
  have hbq : Below v3.heap.size v3 ((((v3.alloc (.cells Z 34)).alloc (.cells Z 34)).setCells v3.heap.size 0 Z.toList).setCells (v3.heap.size + 1) 0 Z.toList) :=
    ((alc (alc0 _ _) _).trans (hob7.1.2.2 _ (Nat.le_refl _) (by simp; omega))).trans (hob8.1.2.2 _ (by omega) (by rw [hob7.2]; simp; omega))
  have HIZ : Hid ((Tryd.prog.info? 34).map (·.size) = some Z.size) := Lib.hid (by rw [hZs]; exact (by kernel_rfl : (Tryd.prog.info? 34).map (·.size) = some 3080))
  have HOZ := Lib.hid hZ1
  go_wp2_with (first | (refine wpList_store_mid rfl 34 (.tmp 7) (.tmp 33) rfl v3.heap.size 0 Z rfl rfl ?ht7 ?hi7 ?h17 ?_; exact HT7.out; exact HIZ.out; exact HOZ.out) | (refine wpList_store_mid rfl 34 (.tmp 8) (.tmp 34) rfl (v3.heap.size + 1) 0 Z rfl rfl ?ht8 ?hi8 ?h18 ?_; exact HT8.out; exact HIZ.out; exact HOZ.out))
  have HM14 := Lib.hid (HM13.out.later hbq)
  have HM24 := Lib.hid (HM23.out.later hbq)
  have HW4 := Lib.hid (thn HW3.out hbq)
  have HC0 : Hid (cl2 v3.heap.size = 0 ∧ cl2 (v3.heap.size + 1) = 0) := Lib.hid ⟨HM23.out.old (Nat.le_refl _), HM23.out.old (Nat.le_succ _)⟩
  clear hbq HM13 HM23 HW3 HX0 HX1 HT7 HT8 hob7 hob8 HCE
  generalize (((v3.alloc (.cells Z 34)).alloc (.cells Z 34)).setCells v3.heap.size 0 Z.toList).setCells (v3.heap.size + 1) 0 Z.toList = v4 at *
  generalize hx8 : v3.heap.size + 1 = x8 at *
  generalize v3.heap.size = x7 at *
  clear hx8 zvv zi zb zs1 zs2 hZs hZ1 HR2 HIZ HOZ
  go_loopw [9] (fun v9 wr => ∃ i : Nat, i ≤ 128 ∧ v9 = .int .i64 i ∧ Hid (Below v4.heap.size v4 wr)) (fun v9 _ => 128 - (intOf v9).toNat)
  case atStart => exact ⟨0, by omega, rfl, Lib.hid (Below.refl _ _)⟩
  case round =>
    obtain ⟨i, hi, rfl, HB⟩ := hrel
    by_cases hlt : i < 128
    · as_aux_lemma =>
        have l1 : (i : Int) < 128 := by omega
        have e1 : IntKind.i64.wrap (16 * (i : Int)) = 16 * (i : Int) := IntWalk.i64_in _ (by omega)
        obtain ⟨u, hu⟩ : ∃ u, tagI σ (16 * (i : Int)) = u := ⟨_, rfl⟩
        have HU := Lib.hid hu
        clear hu
        go_wp2_with fail
        with_reducible refine Calls.mono (mtag u (16 * (i : Int)) (HM14.out.later HB.out) HU.out) ?_
        rintro e w5 ⟨rfl, hb5⟩
        have HB5 := Lib.hid (thn HB.out hb5)
        clear hb5
        go_wp2_with fail
        with_reducible refine Calls.mono (mtag u (16 * (i : Int)) (HM24.out.later HB5.out) HU.out) ?_
        rintro e w6 ⟨rfl, hb6⟩
        have HB6 := Lib.hid (thn HB5.out hb6)
        clear hb6
        have f1 : (u == u) = true := beq_self_eq_true u
        have f2 : (u != u) = false := by rw [bne, f1]; rfl
        go_wp2_with fail
        go_roundw
        case rel => exact ⟨i + 1, by omega, by go_num, HB6⟩
        case measure => simp [intOf]; omega
    · have l1 : ¬ (i : Int) < 128 := by omega
      clear hlt hi
      have HM15 := Lib.hid (HM14.out.later HB.out)
      have HM25 := Lib.hid (HM24.out.later HB.out)
      have HW5 := Lib.hid (thn HW4.out HB.out)
      have HX5 := Lib.hid (And.intro (HX.out.1.below HB.out) (HX.out.2.below HB.out))
      clear HM14 HM24 HW4 HX HB
      rename World => v5
      go_upto_if 50 with (fail)
      go_cut [10] (fun v10 wx => ∃ a : Nat, v10 = .int .i64 a ∧ Hid (a < 1024) ∧ v5 = wx)
      case first =>
        by_cases h0 : 0 < l2.length
        · have h0I : 0 < (l2.length : Int) := by omega
          obtain ⟨p, hp⟩ : ∃ p, l2[0]? = some p := ⟨l2[0], List.getElem?_eq_getElem _⟩
          obtain hn | ⟨ab, ao, rfl, hab0, hcells⟩ := HA2.out
          · subst hn
            simp at h0
          have c1 := ((hcells 0 p hp).keep hab0 HW5.out).1.2.1
          rw [Nat.zero_mul, Nat.add_zero] at c1
          have f1 : bits .and .i64 p.a 1023 = p.a % 1024 := and1023 p.a
          obtain ⟨a, ha⟩ : ∃ a : Nat, p.a % 1024 = (a : Int) := ⟨(p.a % 1024).toNat, by omega⟩
          rw [ha] at f1
          have HAA : Hid (a < 1024) := Lib.hid (by omega)
          clear hcells hp ha
          go_wp2_with fail
          go_meet
          exact ⟨a, rfl, HAA, rfl⟩
        · have h0I : ¬ 0 < (l2.length : Int) := by omega
          go_wp2_with fail
          go_meet
          exact ⟨0, rfl, Lib.hid (by decide), rfl⟩
      case rest =>
        obtain ⟨a, rfl, HAA, rfl⟩ := hcut
        as_aux_lemma =>
          obtain ⟨u, hu⟩ : ∃ u, σ.f (a / 16) = u := ⟨_, rfl⟩
          have HU := Lib.hid hu
          obtain ⟨t, htt⟩ : ∃ t, (u + 1) % 16 = t := ⟨_, rfl⟩
          have HT := Lib.hid htt
          have f15 : bits .and .i64 ((u : Int) + 1) 15 = (t : Int) := by rw [and15]; omega
          have HUB : Hid (u < 16) := Lib.hid (by
            obtain ⟨P, sg, tt, S, kb, -, -, -, ⟨hg, -⟩, -⟩ := HM25.out.ex
            rw [← hu]
            exact hg.2.1 (a / 16))
          have hw1 : IntKind.i64.wrap ((u : Int) + 1) = (u : Int) + 1 := IntWalk.i64_in _ (by have := HUB.out; omega)
          have u16 : (u : Int) < 16 := by have := HUB.out; omega
          have HT16 : Hid (t < 16) := Lib.hid (by omega)
          clear hu htt
          go_wp2_with fail
          with_reducible refine Calls.mono (mtag (u : Int) (a : Int) HM25.out (by rw [tagI4 HPG.out HAA.out, HU.out])) ?_
          rintro e v6 ⟨rfl, hb6⟩
          have HM16 := Lib.hid (HM15.out.later hb6)
          have HM26 := Lib.hid (HM25.out.later hb6)
          have HW6 := Lib.hid (thn HW5.out hb6)
          have HX6 := Lib.hid (And.intro (HX5.out.1.below hb6) (HX5.out.2.below hb6))
          clear hb6 HM15 HM25 HW5 HX5
          go_wp2_with fail
          with_reducible refine Calls.mono (msettag_ok (a : Int) 1 t HM26.out HT16.out (pg4_yes HPG.out (by omega) (by decide) (by have := HAA.out; omega))) ?_
          rintro e v7 ⟨rfl, cl7, hm7, hc7, ho7, hb7⟩
          have HM17 := Lib.hid (HM16.out.keep (hb7.mono HV.out) (fun i _ hc => hb7.block i (HO1.out i hc)))
          have HM27 := Lib.hid hm7
          have HW7 := Lib.hid (HW6.out.trans (hb7.mono HWV.out))
          have HX7 := Lib.hid (And.intro (HX6.out.1.keep hb7.size (ho7 _ HX6.out.1.1 (by rw [HC0.out.1]; decide))) (HX6.out.2.keep hb7.size (ho7 _ HX6.out.2.1 (by rw [HC0.out.2]; decide))))
          clear hm7 hc7 ho7 hb7 HM16 HM26 HW6 HX6
          have HTU := Lib.hid (t_unlike HPG.out HAA.out HU.out HT.out)
          as_aux_lemma =>
            go_wp2_with fail
            with_reducible refine Calls.mono (nil_read 0 1 _) ?_
            rintro e v8 ⟨rfl, hb8⟩
            have HM18 := Lib.hid (HM17.out.later hb8)
            have HM28 := Lib.hid (HM27.out.later hb8)
            have HW8 := Lib.hid (thn HW7.out hb8)
            have HX8 := Lib.hid (And.intro (HX7.out.1.below hb8) (HX7.out.2.below hb8))
            clear hb8 HM17 HM27 HW7 HX7
            as_aux_lemma =>
              go_wp2_with fail
              with_reducible refine Calls.mono (msame false v0.heap.size v1.heap.size cl1 cl7 M1 M2 σ { σ with f := setF σ.f (grF (a : Int)) (grN (a : Int) 1) t } v8 HM18.out HM28.out rfl HZ.out (fun _ => rfl) rfl (fun _ _ _ _ => rfl) HTU.out) ?_
              rintro e v9 ⟨rfl, hb9⟩
              have HW9 := Lib.hid (thn HW8.out hb9)
              have HX9 := Lib.hid (And.intro (HX8.out.1.below hb9) (HX8.out.2.below hb9))
              clear hb9 HM18 HM28 HW8 HX8
              go_wp2_with fail
              with_reducible refine Calls.mono (nil_same M1 _) ?_
              rintro e v10 ⟨rfl, hb10⟩
              have HW10 := Lib.hid (thn HW9.out hb10)
              have HX10 := Lib.hid (And.intro (HX9.out.1.below hb10) (HX9.out.2.below hb10))
              clear hb10 HW9 HX9
              as_aux_lemma =>
                go_wp2_with fail
                with_reducible refine Calls.mono (nil_map 0 1 _) ?_
                rintro e w' ⟨rfl, rfl⟩
                have hcv := Lib.run_convert_bytes_const (P := Tryd.prog) v10 35 5 #[.int .u8 97] 1 1 Tryd.underlying35 Tryd.underlying5
                go_wp2_with fail
                with_reducible refine Calls.mono (nil_write 0 _ _ _ _) ?_
                rintro e v11 ⟨rfl, hb11⟩
                have hb11' : Below v10.heap.size v10 v11 := thn (alc0 _ _) hb11
                have HW11 := Lib.hid (thn HW10.out hb11')
                have HX11 := Lib.hid (And.intro (HX10.out.1.below hb11') (HX10.out.2.below hb11'))
                clear hb11 hb11' HW10 HX10 hcv
                go_wp2_with fail
                with_reducible refine Calls.mono (nil_caps _) ?_
                rintro e w' ⟨rfl, rfl⟩
                go_wp2_with fail
                with_reducible refine Calls.mono (nil_next 0 _) ?_
                rintro e w' ⟨rfl, rfl⟩
                go_wp2_with fail
                with_reducible refine Calls.mono (nil_clear 0 _) ?_
                rintro e w' ⟨rfl, rfl⟩
                as_aux_lemma =>
                  have HRG7 := Lib.hid HX11.out.1.range
                  have HRG8 := Lib.hid HX11.out.2.range
                  have HEQG := Lib.hid (mem_eqG (.tmp 117) (.tmp 118))
                  have HEQB := Lib.hid mem_eqB
                  have HI1 := Lib.hid (RS.info zeroR)
                  clear HX11
                  generalize zeroR.l = ZL at HRG7 HRG8 HEQG HEQB HI1
                  go_wp2_with (first | (refine wpList_load_gd9 (by rfl) 34 (.tmp 7) rfl x7 0 rfl ZL _ HRG7.out Tryd.underlying34 rfl HI1.out ?_) | (refine wpList_load_gd9 (by rfl) 34 (.tmp 8) rfl x8 0 rfl ZL _ HRG8.out Tryd.underlying34 rfl HI1.out ?_) | (refine wpList_eqm_gd (by rfl) 34 _ (.tmp 117) (.tmp 118) rfl (.agg ZL.toArray) (.agg ZL.toArray) rfl rfl (HEQG.out _) (HEQB.out _) ?_))
                  go_ret
                  exact ⟨rfl, HW11.out⟩
end Go.Proofs.YtgidnmjeifgciaaDoor
