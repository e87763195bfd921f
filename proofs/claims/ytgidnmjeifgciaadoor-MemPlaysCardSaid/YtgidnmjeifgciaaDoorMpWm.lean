/- The walk of MemPlays. -/
import Derived.Test.YtgidnmjeifgciaaDoorMpE
import Derived.Test.YtgidnmjeifgciaaDoorMpS
import Derived.Deep.CutBlock
import Derived.Deep.RegionHeld3
namespace Go.Proofs.YtgidnmjeifgciaaDoor
set_option maxRecDepth 100000
open Go.RowKit Go.ChangeMaps Go.MapKept
set_option linter.unusedVariables false
set_option linter.unusedSimpArgs false

theorem wpList_load_gd {P : Program} {ops : Array Oper} {rest : List Oper} {op : Oper} {a : Act} {w : World} {Q : Exit → Act → World → Prop} (hw : Region.wanted op (yielded ops a.tmps) = true) (ty : TypeId) (x : Operand) (ho : op.op = .load ty x)
    (b o : Nat) (hx : a.eval x = .pointer (some ⟨b, o, none⟩)) (cs : List Value) (d : TypeDesc) (hc : w.rangeAt b o cs)
    (hu : P.underlying ty = some d) (hd : d.isRow = true) (hi : (P.info? ty).map (·.size) = some cs.length)
    (h : wpList P ops Q rest (a.put op.dst (.agg cs.toArray)) w) : wpList P ops Q (op :: rest) a w :=
  wpList_step fun K hK => by
    rw [if_pos hw]
    exact wp_load_mid ty x ho b o hx cs d hc hu hd hi (hK _ _ h)
set_option maxHeartbeats 8000000 in
theorem mplays_t (A : Option Addr) (l : List AV) (cp : Nat) (W : World) (hl : l.length ≤ 9223372036854775807) (hA : ACTS W A l) (ht : TzTab W) : Calls Tryd.prog 3 #[.slice A l.length cp] W fun e w' => e = .returned (.bool true) ∧ Below W.heap.size W w' := by
  have T := Lib.hid ht
  have HA := Lib.hid hA
  obtain ⟨L, hL⟩ : ∃ L, l.length = L := ⟨_, rfl⟩
  rw [hL] at hl ⊢
  have HLEN := Lib.hid hL
  clear hA hL ht
  obtain ⟨zvv, zi⟩ := zero_of_info infoRz
  have zb := fun W : World => run_build (P := Tryd.prog) W 34 #[] zeroR.l.toArray builtM
  have zs1 := fun W : World => run_storeAt_new (P := Tryd.prog) W 34 zeroR.l.toArray zeroR.l.toArray (RS.infoA _) rfl (RS.one zeroR_one)
  have zs2 := fun W : World => run_storeCells_new (P := Tryd.prog) W 34 zeroR.l.toArray zeroR.l.toArray (RS.infoA _) rfl (RS.one zeroR_one)
  have HR2 := Lib.hid (fun W => RAt.new W zeroR 34)
  have hZs : zeroR.l.toArray.size = 3080 := by rw [List.size_toArray, RS.len]
  have hZ1 := RS.one zeroR_one
  generalize zeroR.l.toArray = Z at *
  go_enter Tryd.func3, Tryd.ntmps3
  go_wp2_with fail
  refine (w08awake _ T.out).mono ?_
  rintro e v0 ⟨rfl, hb0⟩
  have HB0 := Lib.hid hb0
  clear hb0
  go_wp2_with fail
  refine (mnew 6 6 _ (T.out.later HB0.out) (by decide)).mono ?_
  rintro e v1 ⟨M, col, rfl, hm, hb1⟩
  have HM := Lib.hid hm
  have HB1 := Lib.hid hb1
  clear hm hb1
  go_wp2_with fail
  have HST : Hid (ML v0.heap.size M v1.heap.size v0 (newS 6) zeroR col (v1.alloc (.cells Z 34))) := Lib.hid ⟨HM.out.later (alc0 _ _), HM.out.old (Nat.le_refl _), HR2.out v1, zeroR_one, LKM.start 6, rfl, alc HB1.out _, HB1.out.size, Nat.le_refl _⟩
  obtain ⟨a0, ha0⟩ : ∃ a0, v1.heap.size = a0 := ⟨_, rfl⟩
  rw [ha0] at HST
  try rw [ha0]
  clear HM HB1 HR2 zvv zi zb zs1 zs2 hZs hZ1 ha0
  go_loopw [5] (fun v5 wr => ∃ (i : Nat) (σ : MS) (r : RS) (cl : Nat → Nat), i ≤ L ∧ i ≤ 25 ∧ v5 = .int .i64 i ∧ Hid (ML v0.heap.size M a0 v0 σ r cl wr)) (fun v5 _ => L - (intOf v5).toNat)
  case atStart => exact ⟨0, _, _, _, by omega, by omega, rfl, HST⟩
  case round =>
    clear HST
    obtain ⟨i, σ, r, cl, hi, hi25, rfl, HP⟩ := hrel
    by_cases hgo : i < L ∧ i < 25
    · obtain ⟨g1, g2⟩ := hgo
      have g1I : (i : Int) < (L : Int) := by omega
      have g2I : (i : Int) < 25 := by omega
      obtain ⟨p, hp⟩ : ∃ p, l[i]? = some p := ⟨l[i]'(by have := HLEN.out; omega), List.getElem?_eq_getElem _⟩
      obtain h0 | ⟨ab, ao, rfl, hab0, hcells⟩ := HA.out
      · have h9 := HLEN.out
        subst h0
        simp at h9
        omega
      have HAB : Hid (ab < W.heap.size ∧ AvAt wr ab (ao + i * 4) p) := Lib.hid ⟨hab0, (hcells i p hp).keep hab0 (HB0.out.trans (HP.out.bel.mono HB0.out.size))⟩
      obtain ⟨c0, c1, c2, c3⟩ := HAB.out.2.1
      have HBS := Lib.hid HAB.out.2.2
      clear hcells
      have f1 : bits .and .i64 p.a 2047 = p.a % 2048 := and2047 p.a
      obtain ⟨a, ha⟩ : ∃ a : Nat, p.a % 2048 = (a : Int) := ⟨(p.a % 2048).toNat, by omega⟩
      have ha9 : a < 2048 := by omega
      rw [ha] at f1
      have f2 : bits .and .i64 p.n 255 = p.n % 256 := and255 p.n
      obtain ⟨n, hn⟩ : ∃ n : Nat, p.n % 256 = (n : Int) := ⟨(p.n % 256).toNat, by omega⟩
      have hn9 : n < 256 := by omega
      rw [hn] at f2
      have a9 : (a : Int) < 2048 := by omega
      have n9 : (n : Int) < 256 := by omega
      clear ha hn
      go_upto_region 7 with (fail)
      go_quiet (fail)
      have HPq : Hid (ML v0.heap.size M a0 v0 σ r cl (wr.drewN nq)) := Lib.hid (HP.out.later (below_drewN (Below.refl _ _) nq))
      have c0q : (wr.drewN nq).cell? ⟨ab, ao + i * 4, none⟩ = some (.int .i64 p.w) := c0
      have c2q : (wr.drewN nq).cell? ⟨ab, ao + i * 4 + 2, none⟩ = some (.int .i64 p.n) := c2
      have c3q : (wr.drewN nq).cell? ⟨ab, ao + i * 4 + 3, none⟩ = some (.slice p.P p.ln p.cp) := c3
      have HBSq : Hid (BS (wr.drewN nq) p.P p.ln p.cp p.d ∧ p.ln ≤ 9223372036854775807) := Lib.hid HBS.out
      clear HP c0 c1 c2 c3 HBS
      generalize wr.drewN nq = wq at *
      have f15 := and15 p.w
      obtain ⟨kd, hkd⟩ : ∃ kd : Nat, p.w % 16 = (kd : Int) := ⟨(p.w % 16).toNat, by omega⟩
      rw [hkd] at f15
      obtain ⟨k7, hk7⟩ : ∃ k7 : Nat, kd % 7 = k7 := ⟨_, rfl⟩
      have fr : (kd : Int).tmod 7 = (k7 : Int) := by rw [Int.tmod_eq_emod_of_nonneg (by omega)]; omega
      have hk79 : k7 < 7 := by omega
      go_upto_block 2 with (fail)
      go_cut [8, 9] (fun v8 v9 wx => Hid (MEET v0.heap.size M a0 v0 v8 v9 wx))
      case first =>
        have hk7c : k7 = 0 ∨ k7 = 1 ∨ k7 = 2 ∨ k7 = 3 ∨ k7 = 4 ∨ k7 = 5 ∨ k7 = 6 := by omega
        clear hk79
        rcases hk7c with rfl | rfl | rfl | rfl | rfl | rfl | rfl
        ·
          as_aux_lemma =>
          have gy : (a : Int).tdiv 256 = ((a / 256 : Nat) : Int) := by rw [Int.tdiv_eq_ediv_of_nonneg (by omega)]; omega
          have gy2 : (a : Int) / 256 = ((a / 256 : Nat) : Int) := by omega
          obtain ⟨y, hy⟩ : ∃ y, a / 256 = y := ⟨_, rfl⟩
          rw [hy] at gy gy2
          have y8 : y < 8 := by omega
          have y0 : (0 : Int) ≤ (y : Int) := by omega
          have y1 : (y : Int) < 8 := by omega
          have y2 : (y : Int).toNat = y := Int.toNat_natCast y
          have HT : Hid (thereI (y : Int) (1 : Int)) := Lib.hid (by unfold thereI; omega)
          have HY8 := Lib.hid y8
          have KU := Lib.hid (mused HPq.out.mem)
          have hcu := cntF_le σ.pg 1024
          clear hy
          cases ho : r.o y with
          | true =>
            have k1 := (HPq.out.rat.2 y (by omega)).1
            rw [RS.co _ y8, ho] at k1
            have K := Lib.hid (mmap_mapped (y : Int) 1 HPq.out.mem HT.out ⟨y, by omega, by omega, by rw [HPq.out.lk.same y y8, ho]⟩)
            clear ho
            generalize cntF σ.pg 1024 = u at *
            go_wp2_with fail
            refine KU.out.mono ?_
            rintro e w' ⟨rfl, rfl⟩
            go_wp2_with fail
            refine K.out.mono ?_
            rintro e w' ⟨rfl, rfl⟩
            go_wp2_with fail
            go_meet
            exact Lib.hid ⟨5, σ, r, cl, rfl, rfl, HPq.out⟩
          | false =>
            have K := Lib.hid (mmap_free (y : Int) 1 HPq.out.mem HT.out (fun z z1 z2 => by rw [show z = y by omega, HPq.out.lk.same y y8, ho]))
            have HO := Lib.hid ho
            clear ho
            go_wp2_with fail
            refine KU.out.mono ?_
            rintro e w' ⟨rfl, rfl⟩
            go_wp2_with fail
            refine K.out.mono ?_
            rintro e w2 (⟨hu, rfl, hs⟩ | ⟨hu, rfl, hs, -⟩)
            · rw [HPq.out.most] at hu
              obtain ⟨cl2, hh⟩ := HPq.out.step hs
              have HF := Lib.hid (hh.full HPq.out.lk HPq.out.most)
              have k1 := (hh.rat.2 y (by omega)).1
              rw [RS.co _ y8, HO.out] at k1
              have u6 : 6 ≤ ((cntF σ.pg 1024 : Nat) : Int) := by omega
              clear hs hh K KU hu
              generalize cntF σ.pg 1024 = u at *
              go_wp2_with fail
              go_meet
              exact Lib.hid ⟨6, σ, r, cl2, rfl, rfl, HF.out⟩
            · rw [HPq.out.most] at hu
              obtain ⟨cl2, hh⟩ := HPq.out.step hs
              have k1 := (hh.rat.2 y (by omega)).1
              rw [RS.co _ y8, HO.out] at k1
              have u6 : ¬ 6 ≤ ((cntF σ.pg 1024 : Nat) : Int) := by omega
              have HL2 := Lib.hid (HPq.out.lk.page (pk := max σ.peak ((cntF σ.pg 1024 : Nat) + 1)) HY8.out HO.out)
              have HRG := Lib.hid hh.rat.range
              have HI1 := Lib.hid (RS.info r)
              have HH := Lib.hid hh
              clear hs hh K KU hu
              generalize max σ.peak ((cntF σ.pg 1024 : Nat) + 1) = pk at *
              generalize cntF σ.pg 1024 = u at *
              go_wp2_with (refine wpList_load_mid rfl 34 (.tmp 4) rfl a0 0 rfl r.l _ HRG.out Tryd.underlying34 rfl HI1.out ?_)
              refine (rfresh r HH.out.one y true HY8.out w2).mono ?_
              rintro e w3 ⟨rfl, hb3⟩
              have HTH := Lib.hid ((HH.out.later hb3).there (freshN r y true 256 16))
              have HI2 := Lib.hid (RS.infoA (freshN r y true 256 16))
              have HON := Lib.hid (RS.one (freshN_one HH.out.one y true 256 16))
              have HF := Lib.hid (((HH.out.later hb3).put (freshN_one HH.out.one y true 256 16)).full HL2.out HPq.out.most)
              clear hb3
              go_wp2_with (refine wpList_store_mid rfl 34 (.tmp 4) (.tmp 81) rfl a0 0 (freshN r y true 256 16).l.toArray rfl rfl ?ht01 ?hi01 ?h101 ?_; simpa using HTH.out; exact HI2.out; exact HON.out)
              go_meet
              exact Lib.hid ⟨0, _, _, cl2, rfl, rfl, HF.out⟩
        ·
          as_aux_lemma =>
          have gy : (a : Int).tdiv 256 = ((a / 256 : Nat) : Int) := by rw [Int.tdiv_eq_ediv_of_nonneg (by omega)]; omega
          have gy2 : (a : Int) / 256 = ((a / 256 : Nat) : Int) := by omega
          obtain ⟨y, hy⟩ : ∃ y, a / 256 = y := ⟨_, rfl⟩
          rw [hy] at gy gy2
          have y8 : y < 8 := by omega
          have y0 : (0 : Int) ≤ (y : Int) := by omega
          have y1 : (y : Int) < 8 := by omega
          have y2 : (y : Int).toNat = y := Int.toNat_natCast y
          have HT : Hid (thereI (y : Int) (1 : Int)) := Lib.hid (by unfold thereI; omega)
          have HY8 := Lib.hid y8
          clear hy
          cases ho : r.o y with
          | false =>
            have hw : wholeF σ.pg y 1 = false := by
              show (true && σ.pg (y + 0)) = false
              rw [Bool.true_and, Nat.add_zero, HPq.out.lk.same y y8, ho]
            have k1 := (HPq.out.rat.2 y (by omega)).1
            rw [RS.co _ y8, ho] at k1
            have K := Lib.hid (munmap_not y 1 HPq.out.mem HT.out hw)
            clear hw ho
            go_wp2_with fail
            refine K.out.mono ?_
            rintro e w' ⟨rfl, rfl⟩
            go_wp2_with fail
            go_meet
            exact Lib.hid ⟨5, σ, r, cl, rfl, rfl, HPq.out⟩
          | true =>
            have hw : wholeF σ.pg y 1 = true := by
              show (true && σ.pg (y + 0)) = true
              rw [Bool.true_and, Nat.add_zero, HPq.out.lk.same y y8, ho]
            have K := Lib.hid (munmap_ok y 1 HPq.out.mem HT.out hw)
            have HO := Lib.hid ho
            clear hw ho
            go_wp2_with fail
            refine K.out.mono ?_
            rintro e w2 ⟨rfl, hs⟩
            obtain ⟨cl2, hh⟩ := HPq.out.step hs
            have k1 := (hh.rat.2 y (by omega)).1
            rw [RS.co _ y8, HO.out] at k1
            have HRG := Lib.hid hh.rat.range
            have HI1 := Lib.hid (RS.info r)
            have HH := Lib.hid hh
            clear hs hh K
            go_wp2_with (refine wpList_load_mid rfl 34 (.tmp 4) rfl a0 0 rfl r.l _ HRG.out Tryd.underlying34 rfl HI1.out ?_)
            refine (rfresh r HH.out.one y false HY8.out w2).mono ?_
            rintro e w3 ⟨rfl, hb3⟩
            have HTH := Lib.hid ((HH.out.later hb3).there (freshN r y false 256 16))
            have HI2 := Lib.hid (RS.infoA (freshN r y false 256 16))
            have HON := Lib.hid (RS.one (freshN_one HH.out.one y false 256 16))
            have HF := Lib.hid (((HH.out.later hb3).put (freshN_one HH.out.one y false 256 16)).full (HPq.out.lk.gone HY8.out) HPq.out.most)
            clear hb3
            go_wp2_with (refine wpList_store_mid rfl 34 (.tmp 4) (.tmp 104) rfl a0 0 (freshN r y false 256 16).l.toArray rfl rfl ?ht11 ?hi11 ?h111 ?_; simpa using HTH.out; exact HI2.out; exact HON.out)
            go_meet
            exact Lib.hid ⟨0, _, _, cl2, rfl, rfl, HF.out⟩
        ·
          as_aux_lemma =>
          obtain ⟨n0, hn0, hn3⟩ : ∃ n0 : Nat, min p.ln 40 = n0 ∧ n0 ≤ 40 := ⟨_, rfl, by omega⟩
          have hncp : n0 ≤ p.cp := by have := HBSq.out.1.2.1; omega
          have hlnM : (p.ln : Int) ≤ 9223372036854775807 := by have := HBSq.out.2; omega
          have HN0L : Hid (n0 ≤ p.ln ∧ n0 ≤ 40 ∧ n0 ≤ p.cp) := Lib.hid ⟨by omega, hn3, hncp⟩
          go_upto_region 28 with (fail)
          go_cut [13] (fun v13 wx => v13 = .slice p.P n0 p.cp ∧ wq.drew = wx)
          case first =>
            by_cases h3 : 40 < p.ln
            · obtain rfl : 40 = n0 := by omega
              have h3I : (40 : Int) < (p.ln : Int) := by omega
              clear hn0 hn3 hncp
              have hle : 40 ≤ p.cp := HN0L.out.2.2
              have hleI : (40 : Int) ≤ (p.cp : Int) := by omega
              refine wp_region_held_drew (S := fun w' => w'.cell? ⟨ab, ao + i * 4 + 3, none⟩ = some (.slice p.P p.ln p.cp)) (by kernel_rfl) ?_ (fun hHeld => ?_)
              · exact c3q
              refine wpAnyH_take (i := 0) (v := ?_) rfl (by kernel_rfl) (by kernel_rfl) (by kernel_rfl) (fun _ _ _ h => h) (Or.inl ⟨by kernel_rfl, ?_⟩) (by assumption) ?_
              rotate_left
              · (intro w hSw; (try dsimp only at hSw); go_simp)
                try (with_reducible rfl)
              rotate_left
              try simp (maxSteps := 4000000) only [Act.put, List.setIfInBounds_toArray, List.set_cons_zero, List.set_cons_succ, List.getElem_toArray, List.getElem_cons_zero, List.getElem_cons_succ]
              refine wpAnyH_take (i := 1) (v := ?_) rfl (by kernel_rfl) (by kernel_rfl) (by kernel_rfl) (fun _ _ _ h => h) (Or.inl ⟨by kernel_rfl, ?_⟩) (by assumption) ?_
              rotate_left
              · (intro w hSw; (try dsimp only at hSw); go_simp)
                try (with_reducible rfl)
              rotate_left
              try simp (maxSteps := 4000000) only [Act.put, List.setIfInBounds_toArray, List.set_cons_zero, List.set_cons_succ, List.getElem_toArray, List.getElem_cons_zero, List.getElem_cons_succ]
              refine wpAnyH_take (i := 2) (v := ?_) rfl (by kernel_rfl) (by kernel_rfl) (by kernel_rfl) (fun _ _ _ h => h) (Or.inl ⟨by kernel_rfl, ?_⟩) (by assumption) ?_
              rotate_left
              · (intro w hSw; (try dsimp only at hSw); go_simp)
                try (with_reducible rfl)
              rotate_left
              try simp (maxSteps := 4000000) only [Act.put, List.setIfInBounds_toArray, List.set_cons_zero, List.set_cons_succ, List.getElem_toArray, List.getElem_cons_zero, List.getElem_cons_succ]
              refine wpAnyH_take (i := 3) (v := ?_) rfl (by kernel_rfl) (by kernel_rfl) (by kernel_rfl) (fun _ _ _ h => h) (Or.inl ⟨by kernel_rfl, ?_⟩) (by assumption) ?_
              rotate_left
              · (intro w hSw; (try dsimp only at hSw); go_simp)
                try (with_reducible rfl)
              rotate_left
              try simp (maxSteps := 4000000) only [Act.put, List.setIfInBounds_toArray, List.set_cons_zero, List.set_cons_succ, List.getElem_toArray, List.getElem_cons_zero, List.getElem_cons_succ]
              refine wpAnyH_take (i := 4) (v := ?_) rfl (by kernel_rfl) (by kernel_rfl) (by kernel_rfl) (fun _ _ _ h => h) (Or.inl ⟨by kernel_rfl, ?_⟩) (by assumption) ?_
              rotate_left
              · (intro w hSw; (try dsimp only at hSw); go_simp)
                try (with_reducible rfl)
              rotate_left
              try simp (maxSteps := 4000000) only [Act.put, List.setIfInBounds_toArray, List.set_cons_zero, List.set_cons_succ, List.getElem_toArray, List.getElem_cons_zero, List.getElem_cons_succ]
              refine wpAnyH_take (i := 5) (v := ?_) rfl (by kernel_rfl) (by kernel_rfl) (by kernel_rfl) (fun _ _ _ h => h) (Or.inl ⟨by kernel_rfl, ?_⟩) (by assumption) ?_
              rotate_left
              · (intro w hSw; (try dsimp only at hSw); go_simp)
                try (with_reducible rfl)
              rotate_left
              try simp (maxSteps := 4000000) only [Act.put, List.setIfInBounds_toArray, List.set_cons_zero, List.set_cons_succ, List.getElem_toArray, List.getElem_cons_zero, List.getElem_cons_succ]
              refine wpAnyH_take (i := 6) (v := ?_) rfl (by kernel_rfl) (by kernel_rfl) (by kernel_rfl) (fun _ _ _ h => h) (Or.inl ⟨by kernel_rfl, ?_⟩) (by assumption) ?_
              rotate_left
              · (intro w hSw; (try dsimp only at hSw); go_simp)
                try (with_reducible rfl)
              rotate_left
              try simp (maxSteps := 4000000) only [Act.put, List.setIfInBounds_toArray, List.set_cons_zero, List.set_cons_succ, List.getElem_toArray, List.getElem_cons_zero, List.getElem_cons_succ]
              refine wpAnyH_take (i := 7) (v := ?_) rfl (by kernel_rfl) (by kernel_rfl) (by kernel_rfl) (fun _ _ _ h => h) (Or.inl ⟨by kernel_rfl, ?_⟩) (by assumption) ?_
              rotate_left
              · (intro w hSw; (try dsimp only at hSw); go_simp)
                try (with_reducible rfl)
              rotate_left
              try simp (maxSteps := 4000000) only [Act.put, List.setIfInBounds_toArray, List.set_cons_zero, List.set_cons_succ, List.getElem_toArray, List.getElem_cons_zero, List.getElem_cons_succ]
              refine wpAnyH_take (i := 8) (v := ?_) rfl (by kernel_rfl) (by kernel_rfl) (by kernel_rfl) (fun _ _ _ h => h) (Or.inl ⟨by kernel_rfl, ?_⟩) (by assumption) ?_
              rotate_left
              · (intro w hSw; (try dsimp only at hSw); go_simp)
                try (with_reducible rfl)
              rotate_left
              try simp (maxSteps := 4000000) only [Act.put, List.setIfInBounds_toArray, List.set_cons_zero, List.set_cons_succ, List.getElem_toArray, List.getElem_cons_zero, List.getElem_cons_succ]
              refine wpAnyH_take (i := 9) (v := ?_) rfl (by kernel_rfl) (by kernel_rfl) (by kernel_rfl) (fun _ _ _ h => h) (Or.inl ⟨by kernel_rfl, ?_⟩) (by assumption) ?_
              rotate_left
              · (intro w hSw; (try dsimp only at hSw); go_simp)
                try (with_reducible rfl)
              rotate_left
              try simp (maxSteps := 4000000) only [Act.put, List.setIfInBounds_toArray, List.set_cons_zero, List.set_cons_succ, List.getElem_toArray, List.getElem_cons_zero, List.getElem_cons_succ]
              refine wpAnyH_take (i := 10) (v := ?_) rfl (by kernel_rfl) (by kernel_rfl) (by kernel_rfl) (fun _ _ _ h => h) (Or.inl ⟨by kernel_rfl, ?_⟩) (by assumption) ?_
              rotate_left
              · (intro w hSw; (try dsimp only at hSw); go_simp)
                try (with_reducible rfl)
              rotate_left
              try simp (maxSteps := 4000000) only [Act.put, List.setIfInBounds_toArray, List.set_cons_zero, List.set_cons_succ, List.getElem_toArray, List.getElem_cons_zero, List.getElem_cons_succ]
              refine wpAnyH_take (i := 11) (v := ?_) rfl (by kernel_rfl) (by kernel_rfl) (by kernel_rfl) (fun _ _ _ h => h) (Or.inl ⟨by kernel_rfl, ?_⟩) (by assumption) ?_
              rotate_left
              · (intro w hSw; (try dsimp only at hSw); go_simp)
                try (with_reducible rfl)
              rotate_left
              try simp (maxSteps := 4000000) only [Act.put, List.setIfInBounds_toArray, List.set_cons_zero, List.set_cons_succ, List.getElem_toArray, List.getElem_cons_zero, List.getElem_cons_succ]
              refine wpAnyH_take (i := 12) (v := ?_) rfl (by kernel_rfl) (by kernel_rfl) (by kernel_rfl) (fun _ _ _ h => h) (Or.inl ⟨by kernel_rfl, ?_⟩) (by assumption) ?_
              rotate_left
              · (intro w hSw; (try dsimp only at hSw); go_simp)
                try (with_reducible rfl)
              rotate_left
              try simp (maxSteps := 4000000) only [Act.put, List.setIfInBounds_toArray, List.set_cons_zero, List.set_cons_succ, List.getElem_toArray, List.getElem_cons_zero, List.getElem_cons_succ]
              refine wpAnyH_take (i := 13) (v := ?_) rfl (by kernel_rfl) (by kernel_rfl) (by kernel_rfl) (fun _ _ _ h => h) (Or.inl ⟨by kernel_rfl, ?_⟩) (by assumption) ?_
              rotate_left
              · (intro w hSw; (try dsimp only at hSw); go_simp)
                try (with_reducible rfl)
              rotate_left
              try simp (maxSteps := 4000000) only [Act.put, List.setIfInBounds_toArray, List.set_cons_zero, List.set_cons_succ, List.getElem_toArray, List.getElem_cons_zero, List.getElem_cons_succ]
              refine wpAnyH_done (by kernel_rfl) ?_ _
              go_wp2_with fail
              go_meet
              exact ⟨by first | rfl | simp, rfl⟩
            · obtain rfl : p.ln = n0 := by omega
              have h3I : ¬ (40 : Int) < (p.ln : Int) := by omega
              clear hn0 hn3 hncp
              have hle : p.ln ≤ p.cp := HN0L.out.2.2
              have hleI : ((p.ln : Int) : Int) ≤ (p.cp : Int) := by omega
              refine wp_region_held_drew (S := fun w' => w'.cell? ⟨ab, ao + i * 4 + 3, none⟩ = some (.slice p.P p.ln p.cp)) (by kernel_rfl) ?_ (fun hHeld => ?_)
              · exact c3q
              refine wpAnyH_take (i := 0) (v := ?_) rfl (by kernel_rfl) (by kernel_rfl) (by kernel_rfl) (fun _ _ _ h => h) (Or.inl ⟨by kernel_rfl, ?_⟩) (by assumption) ?_
              rotate_left
              · (intro w hSw; (try dsimp only at hSw); go_simp)
                try (with_reducible rfl)
              rotate_left
              try simp (maxSteps := 4000000) only [Act.put, List.setIfInBounds_toArray, List.set_cons_zero, List.set_cons_succ, List.getElem_toArray, List.getElem_cons_zero, List.getElem_cons_succ]
              refine wpAnyH_take (i := 1) (v := ?_) rfl (by kernel_rfl) (by kernel_rfl) (by kernel_rfl) (fun _ _ _ h => h) (Or.inl ⟨by kernel_rfl, ?_⟩) (by assumption) ?_
              rotate_left
              · (intro w hSw; (try dsimp only at hSw); go_simp)
                try (with_reducible rfl)
              rotate_left
              try simp (maxSteps := 4000000) only [Act.put, List.setIfInBounds_toArray, List.set_cons_zero, List.set_cons_succ, List.getElem_toArray, List.getElem_cons_zero, List.getElem_cons_succ]
              refine wpAnyH_take (i := 2) (v := ?_) rfl (by kernel_rfl) (by kernel_rfl) (by kernel_rfl) (fun _ _ _ h => h) (Or.inl ⟨by kernel_rfl, ?_⟩) (by assumption) ?_
              rotate_left
              · (intro w hSw; (try dsimp only at hSw); go_simp)
                try (with_reducible rfl)
              rotate_left
              try simp (maxSteps := 4000000) only [Act.put, List.setIfInBounds_toArray, List.set_cons_zero, List.set_cons_succ, List.getElem_toArray, List.getElem_cons_zero, List.getElem_cons_succ]
              refine wpAnyH_take (i := 3) (v := ?_) rfl (by kernel_rfl) (by kernel_rfl) (by kernel_rfl) (fun _ _ _ h => h) (Or.inl ⟨by kernel_rfl, ?_⟩) (by assumption) ?_
              rotate_left
              · (intro w hSw; (try dsimp only at hSw); go_simp)
                try (with_reducible rfl)
              rotate_left
              try simp (maxSteps := 4000000) only [Act.put, List.setIfInBounds_toArray, List.set_cons_zero, List.set_cons_succ, List.getElem_toArray, List.getElem_cons_zero, List.getElem_cons_succ]
              refine wpAnyH_take (i := 4) (v := ?_) rfl (by kernel_rfl) (by kernel_rfl) (by kernel_rfl) (fun _ _ _ h => h) (Or.inl ⟨by kernel_rfl, ?_⟩) (by assumption) ?_
              rotate_left
              · (intro w hSw; (try dsimp only at hSw); go_simp)
                try (with_reducible rfl)
              rotate_left
              try simp (maxSteps := 4000000) only [Act.put, List.setIfInBounds_toArray, List.set_cons_zero, List.set_cons_succ, List.getElem_toArray, List.getElem_cons_zero, List.getElem_cons_succ]
              refine wpAnyH_take (i := 5) (v := ?_) rfl (by kernel_rfl) (by kernel_rfl) (by kernel_rfl) (fun _ _ _ h => h) (Or.inl ⟨by kernel_rfl, ?_⟩) (by assumption) ?_
              rotate_left
              · (intro w hSw; (try dsimp only at hSw); go_simp)
                try (with_reducible rfl)
              rotate_left
              try simp (maxSteps := 4000000) only [Act.put, List.setIfInBounds_toArray, List.set_cons_zero, List.set_cons_succ, List.getElem_toArray, List.getElem_cons_zero, List.getElem_cons_succ]
              refine wpAnyH_take (i := 6) (v := ?_) rfl (by kernel_rfl) (by kernel_rfl) (by kernel_rfl) (fun _ _ _ h => h) (Or.inl ⟨by kernel_rfl, ?_⟩) (by assumption) ?_
              rotate_left
              · (intro w hSw; (try dsimp only at hSw); go_simp)
                try (with_reducible rfl)
              rotate_left
              try simp (maxSteps := 4000000) only [Act.put, List.setIfInBounds_toArray, List.set_cons_zero, List.set_cons_succ, List.getElem_toArray, List.getElem_cons_zero, List.getElem_cons_succ]
              refine wpAnyH_take (i := 7) (v := ?_) rfl (by kernel_rfl) (by kernel_rfl) (by kernel_rfl) (fun _ _ _ h => h) (Or.inl ⟨by kernel_rfl, ?_⟩) (by assumption) ?_
              rotate_left
              · (intro w hSw; (try dsimp only at hSw); go_simp)
                try (with_reducible rfl)
              rotate_left
              try simp (maxSteps := 4000000) only [Act.put, List.setIfInBounds_toArray, List.set_cons_zero, List.set_cons_succ, List.getElem_toArray, List.getElem_cons_zero, List.getElem_cons_succ]
              refine wpAnyH_take (i := 8) (v := ?_) rfl (by kernel_rfl) (by kernel_rfl) (by kernel_rfl) (fun _ _ _ h => h) (Or.inl ⟨by kernel_rfl, ?_⟩) (by assumption) ?_
              rotate_left
              · (intro w hSw; (try dsimp only at hSw); go_simp)
                try (with_reducible rfl)
              rotate_left
              try simp (maxSteps := 4000000) only [Act.put, List.setIfInBounds_toArray, List.set_cons_zero, List.set_cons_succ, List.getElem_toArray, List.getElem_cons_zero, List.getElem_cons_succ]
              refine wpAnyH_take (i := 9) (v := ?_) rfl (by kernel_rfl) (by kernel_rfl) (by kernel_rfl) (fun _ _ _ h => h) (Or.inl ⟨by kernel_rfl, ?_⟩) (by assumption) ?_
              rotate_left
              · (intro w hSw; (try dsimp only at hSw); go_simp)
                try (with_reducible rfl)
              rotate_left
              try simp (maxSteps := 4000000) only [Act.put, List.setIfInBounds_toArray, List.set_cons_zero, List.set_cons_succ, List.getElem_toArray, List.getElem_cons_zero, List.getElem_cons_succ]
              refine wpAnyH_take (i := 10) (v := ?_) rfl (by kernel_rfl) (by kernel_rfl) (by kernel_rfl) (fun _ _ _ h => h) (Or.inl ⟨by kernel_rfl, ?_⟩) (by assumption) ?_
              rotate_left
              · (intro w hSw; (try dsimp only at hSw); go_simp)
                try (with_reducible rfl)
              rotate_left
              try simp (maxSteps := 4000000) only [Act.put, List.setIfInBounds_toArray, List.set_cons_zero, List.set_cons_succ, List.getElem_toArray, List.getElem_cons_zero, List.getElem_cons_succ]
              refine wpAnyH_take (i := 11) (v := ?_) rfl (by kernel_rfl) (by kernel_rfl) (by kernel_rfl) (fun _ _ _ h => h) (Or.inl ⟨by kernel_rfl, ?_⟩) (by assumption) ?_
              rotate_left
              · (intro w hSw; (try dsimp only at hSw); go_simp)
                try (with_reducible rfl)
              rotate_left
              try simp (maxSteps := 4000000) only [Act.put, List.setIfInBounds_toArray, List.set_cons_zero, List.set_cons_succ, List.getElem_toArray, List.getElem_cons_zero, List.getElem_cons_succ]
              refine wpAnyH_take (i := 12) (v := ?_) rfl (by kernel_rfl) (by kernel_rfl) (by kernel_rfl) (fun _ _ _ h => h) (Or.inl ⟨by kernel_rfl, ?_⟩) (by assumption) ?_
              rotate_left
              · (intro w hSw; (try dsimp only at hSw); go_simp)
                try (with_reducible rfl)
              rotate_left
              try simp (maxSteps := 4000000) only [Act.put, List.setIfInBounds_toArray, List.set_cons_zero, List.set_cons_succ, List.getElem_toArray, List.getElem_cons_zero, List.getElem_cons_succ]
              refine wpAnyH_take (i := 13) (v := ?_) rfl (by kernel_rfl) (by kernel_rfl) (by kernel_rfl) (fun _ _ _ h => h) (Or.inl ⟨by kernel_rfl, ?_⟩) (by assumption) ?_
              rotate_left
              · (intro w hSw; (try dsimp only at hSw); go_simp)
                try (with_reducible rfl)
              rotate_left
              try simp (maxSteps := 4000000) only [Act.put, List.setIfInBounds_toArray, List.set_cons_zero, List.set_cons_succ, List.getElem_toArray, List.getElem_cons_zero, List.getElem_cons_succ]
              refine wpAnyH_done (by kernel_rfl) ?_ _
              go_wp2_with fail
              go_meet
              exact ⟨by first | rfl | simp, rfl⟩
          case rest =>
          obtain ⟨rfl, rfl⟩ := hcut
          obtain ⟨res, hres⟩ : ∃ x, errE r a n0 = x := ⟨_, rfl⟩
          have hre : refE σ.pg a n0 = res := by rw [HPq.out.lk.err (by omega) (by omega) (by omega), hres]
          have HRES := Lib.hid hres
          have HRE := Lib.hid hre
          obtain h9 | ⟨ab9, ao9, -, -, hc9⟩ := HA.out
          · rw [h9] at hp
            simp at hp
          have HBW := Lib.hid ((hc9 i p hp).2.1.less n0 HN0L.out.1)
          have HWB := Lib.hid HB0.out.size
          have HPd := Lib.hid (HPq.out.later (Below.refl _ _).drew)
          have HWd : Hid (Below W.heap.size W wq.drew) := Lib.hid (HB0.out.trans (HPd.out.bel.mono HB0.out.size))
          clear hn0 hn3 hncp hlnM hres hre c0q c2q c3q hc9
          generalize wq.drew = wd at *
          have HPe := Lib.hid (HPd.out.later (Below.refl _ _).drew)
          have HWe : Hid (Below W.heap.size W wd.drew) := Lib.hid HWd.out.drew
          by_cases h0 : res = 0
          · subst h0
            obtain ⟨z1, z2, z3, z4⟩ := errE_zero HRES.out
            obtain hz | ⟨sb, so, hP, hsz, hcell⟩ := HBW.out.1
            · omega
            rw [hP]
            have hcl : cl sb = 0 := by
              by_cases e : cl sb = 0
              · exact e
              · have h1 := (HPe.out.mem.own sb e).1
                have h2 := HWB.out
                omega
            have HC9 := Lib.hid (And.intro hsz hcell)
            have K9 := Lib.hid (mwrite_ok a n0 sb so p.cp p.d HPe.out.mem (by rw [open_same HPe.out.lk.same HPe.out.lk.high]; exact z4) HN0L.out.2.2 (fun j hj => (HWe.out.cell (p := ⟨sb, so + j, none⟩) hsz).trans (hcell j hj)) (fun j _ => HBW.out.2.2 j) hcl)
            have HZ : Hid (1 ≤ n0 ∧ a + n0 ≤ 2048 ∧ openR r.o a n0 = true) := Lib.hid ⟨by omega, by omega, z4⟩
            clear z1 z2 z3 z4 hP hsz hcell hcl
            go_upto_region 29 with (fail)
            refine wp_region_held_drew (S := fun w' => Hid (RAt a0 w' r)) (by kernel_rfl) ?_ (fun hHeld => ?_)
            · exact Lib.hid HPe.out.rat
            refine wpAnyH_take (i := 4) (v := .agg r.l.toArray) rfl (by kernel_rfl) (by kernel_rfl) (by kernel_rfl) (fun _ _ _ h => h) (yieldsIf_load_mid (by kernel_rfl) 34 (.tmp 4) rfl a0 0 rfl r.l _ (fun w' hw' => (show Hid (RAt a0 w' r) from hw').out.range) Tryd.underlying34 rfl (RS.info r)) (by assumption) ?_
            try simp (maxSteps := 4000000) only [Act.put, List.setIfInBounds_toArray, List.set_cons_zero, List.set_cons_succ]
            refine wpAnyH_take (i := 0) (v := ?_) rfl (by kernel_rfl) (by kernel_rfl) (by kernel_rfl) (fun _ _ _ h => h) (Or.inl ⟨by kernel_rfl, ?_⟩) (by assumption) ?_
            rotate_left
            · (intro w hSw; (try dsimp only at hSw); go_simp)
              try (with_reducible rfl)
            rotate_left
            try simp (maxSteps := 4000000) only [Act.put, List.setIfInBounds_toArray, List.set_cons_zero, List.set_cons_succ, List.getElem_toArray, List.getElem_cons_zero, List.getElem_cons_succ]
            refine wpAnyH_take (i := 1) (v := ?_) rfl (by kernel_rfl) (by kernel_rfl) (by kernel_rfl) (fun _ _ _ h => h) (Or.inl ⟨by kernel_rfl, ?_⟩) (by assumption) ?_
            rotate_left
            · (intro w hSw; (try dsimp only at hSw); go_simp)
              try (with_reducible rfl)
            rotate_left
            try simp (maxSteps := 4000000) only [Act.put, List.setIfInBounds_toArray, List.set_cons_zero, List.set_cons_succ, List.getElem_toArray, List.getElem_cons_zero, List.getElem_cons_succ]
            refine wpAnyH_take (i := 2) (v := ?_) rfl (by kernel_rfl) (by kernel_rfl) (by kernel_rfl) (fun _ _ _ h => h) (Or.inl ⟨by kernel_rfl, ?_⟩) (by assumption) ?_
            rotate_left
            · (intro w hSw; (try dsimp only at hSw); go_simp)
              try (with_reducible rfl)
            rotate_left
            try simp (maxSteps := 4000000) only [Act.put, List.setIfInBounds_toArray, List.set_cons_zero, List.set_cons_succ, List.getElem_toArray, List.getElem_cons_zero, List.getElem_cons_succ]
            refine wpAnyH_take (i := 5) (v := ?_) rfl (by kernel_rfl) (by kernel_rfl) (by kernel_rfl) (fun _ _ _ h => h) (Or.inl ⟨by kernel_rfl, ?_⟩) (by assumption) ?_
            rotate_left
            · (intro w hSw; (try dsimp only at hSw); go_simp)
              try (with_reducible rfl)
            rotate_left
            try simp (maxSteps := 4000000) only [Act.put, List.setIfInBounds_toArray, List.set_cons_zero, List.set_cons_succ, List.getElem_toArray, List.getElem_cons_zero, List.getElem_cons_succ]
            refine wpAnyH_take (i := 6) (v := ?_) rfl (by kernel_rfl) (by kernel_rfl) (by kernel_rfl) (fun _ _ _ h => h) (Or.inl ⟨by kernel_rfl, ?_⟩) (by assumption) ?_
            rotate_left
            · (intro w hSw; (try dsimp only at hSw); go_simp)
              try (with_reducible rfl)
            rotate_left
            try simp (maxSteps := 4000000) only [Act.put, List.setIfInBounds_toArray, List.set_cons_zero, List.set_cons_succ, List.getElem_toArray, List.getElem_cons_zero, List.getElem_cons_succ]
            refine wpAnyH_take (i := 7) (v := ?_) rfl (by kernel_rfl) (by kernel_rfl) (by kernel_rfl) (fun _ _ _ h => h) (Or.inl ⟨by kernel_rfl, ?_⟩) (by assumption) ?_
            rotate_left
            · (intro w hSw; (try dsimp only at hSw); go_simp)
              try (with_reducible rfl)
            rotate_left
            try simp (maxSteps := 4000000) only [Act.put, List.setIfInBounds_toArray, List.set_cons_zero, List.set_cons_succ, List.getElem_toArray, List.getElem_cons_zero, List.getElem_cons_succ]
            refine wpAnyH_ready (rs := [3]) (by kernel_rfl) (by simp) ?_
            refine AllReadyH.cons rfl (fun K2 hK2 => ?_) AllReadyH.nil
            go_simp
            with_reducible refine Calls.mono K9.out ?_
            rintro e w2 ⟨rfl, hs⟩
            obtain ⟨cl2, hh⟩ := HPe.out.step hs
            have HH := Lib.hid hh
            clear hs hh K9
            refine hK2.out _ _ (Lib.hid HH.out.rat) (fun hHeld2 => ?_)
            clear hK2 K2 hHeld
            have hHeld := hHeld2
            clear hHeld2
            try simp (maxSteps := 4000000) only [Act.put, List.setIfInBounds_toArray, List.set_cons_zero, List.set_cons_succ]
            refine wpAnyH_ready (rs := [8]) (by kernel_rfl) (by simp) ?_
            refine AllReadyH.cons rfl (fun K2 hK2 => ?_) AllReadyH.nil
            go_simp
            with_reducible refine Calls.mono (lerr r 0 HH.out.one (a : Int) (n0 : Int) (by have := HN0L.out; omega) w2 HRES.out) ?_
            rintro e w3 ⟨rfl, hb3⟩
            have HH3 := Lib.hid (HH.out.later hb3)
            clear hb3 HH
            refine hK2.out _ _ (Lib.hid HH3.out.rat) (fun hHeld2 => ?_)
            clear hK2 K2 hHeld
            have hHeld := hHeld2
            clear hHeld2
            try simp (maxSteps := 4000000) only [Act.put, List.setIfInBounds_toArray, List.set_cons_zero, List.set_cons_succ]
            refine wpAnyH_take (i := 9) (v := ?_) rfl (by kernel_rfl) (by kernel_rfl) (by kernel_rfl) (fun _ _ _ h => h) (Or.inl ⟨by kernel_rfl, ?_⟩) (by assumption) ?_
            rotate_left
            · (intro w hSw; (try dsimp only at hSw); go_simp)
              try (with_reducible rfl)
            rotate_left
            try simp (maxSteps := 4000000) only [Act.put, List.setIfInBounds_toArray, List.set_cons_zero, List.set_cons_succ, List.getElem_toArray, List.getElem_cons_zero, List.getElem_cons_succ]
            refine wpAnyH_take (i := 10) (v := ?_) rfl (by kernel_rfl) (by kernel_rfl) (by kernel_rfl) (fun _ _ _ h => h) (Or.inl ⟨by kernel_rfl, ?_⟩) (by assumption) ?_
            rotate_left
            · (intro w hSw; (try dsimp only at hSw); go_simp)
              try (with_reducible rfl)
            rotate_left
            try simp (maxSteps := 4000000) only [Act.put, List.setIfInBounds_toArray, List.set_cons_zero, List.set_cons_succ, List.getElem_toArray, List.getElem_cons_zero, List.getElem_cons_succ]
            refine wpAnyH_done (by kernel_rfl) ?_ _
            have HL2 := Lib.hid (HPe.out.lk.write (d := p.d) HZ.out.1 HZ.out.2.1 HZ.out.2.2)
            have HM6 := Lib.hid HPe.out.most
            have HRG := Lib.hid HH3.out.rat.range
            have HI1 := Lib.hid (RS.info r)
            have HW3 : Hid (Below W.heap.size W w3) := Lib.hid (HB0.out.trans (HH3.out.bel.mono HB0.out.size))
            have RW := Lib.hid (fun cp => rwrite r HH3.out.one a n0 sb so cp p.d HZ.out.2.1 HZ.out.1 w3 (fun j hj => (HW3.out.cell (p := ⟨sb, so + j, none⟩) HC9.out.1).trans (HC9.out.2 j hj)) (fun j _ => HBW.out.2.2 j))
            clear hHeld
            go_wp2_with (refine wpList_load_mid rfl 34 (.tmp 4) rfl a0 0 rfl r.l _ HRG.out Tryd.underlying34 rfl HI1.out ?_)
            refine (RW.out _).mono ?_
            rintro e w5 ⟨rfl, hb5⟩
            have hone := wrN_one HH3.out.one a p.d n0
            have HTH := Lib.hid ((HH3.out.later hb5).there (wrN r a p.d n0))
            have HI2 := Lib.hid (RS.infoA (wrN r a p.d n0))
            have HON := Lib.hid (RS.one hone)
            have HF := Lib.hid (((HH3.out.later hb5).put hone).full HL2.out HM6.out)
            clear hb5 RW hone
            go_wp2_with (refine wpList_store_mid rfl 34 (.tmp 4) (.tmp 134) rfl a0 0 (wrN r a p.d n0).l.toArray rfl rfl ?ht21 ?hi21 ?h121 ?_; simpa using HTH.out; exact HI2.out; exact HON.out)
            go_meet
            exact Lib.hid ⟨0, _, _, cl2, rfl, rfl, HF.out⟩
          · have HN0 := Lib.hid h0
            have K9 := Lib.hid (mwrite_no res (a : Int) p.P n0 p.cp HPe.out.mem HRE.out HN0.out)
            go_upto_region 29 with (fail)
            refine wp_region_held_drew (S := fun w' => Hid (RAt a0 w' r)) (by kernel_rfl) ?_ (fun hHeld => ?_)
            · exact Lib.hid HPe.out.rat
            refine wpAnyH_take (i := 4) (v := .agg r.l.toArray) rfl (by kernel_rfl) (by kernel_rfl) (by kernel_rfl) (fun _ _ _ h => h) (yieldsIf_load_mid (by kernel_rfl) 34 (.tmp 4) rfl a0 0 rfl r.l _ (fun w' hw' => (show Hid (RAt a0 w' r) from hw').out.range) Tryd.underlying34 rfl (RS.info r)) (by assumption) ?_
            try simp (maxSteps := 4000000) only [Act.put, List.setIfInBounds_toArray, List.set_cons_zero, List.set_cons_succ]
            refine wpAnyH_take (i := 0) (v := ?_) rfl (by kernel_rfl) (by kernel_rfl) (by kernel_rfl) (fun _ _ _ h => h) (Or.inl ⟨by kernel_rfl, ?_⟩) (by assumption) ?_
            rotate_left
            · (intro w hSw; (try dsimp only at hSw); go_simp)
              try (with_reducible rfl)
            rotate_left
            try simp (maxSteps := 4000000) only [Act.put, List.setIfInBounds_toArray, List.set_cons_zero, List.set_cons_succ, List.getElem_toArray, List.getElem_cons_zero, List.getElem_cons_succ]
            refine wpAnyH_take (i := 1) (v := ?_) rfl (by kernel_rfl) (by kernel_rfl) (by kernel_rfl) (fun _ _ _ h => h) (Or.inl ⟨by kernel_rfl, ?_⟩) (by assumption) ?_
            rotate_left
            · (intro w hSw; (try dsimp only at hSw); go_simp)
              try (with_reducible rfl)
            rotate_left
            try simp (maxSteps := 4000000) only [Act.put, List.setIfInBounds_toArray, List.set_cons_zero, List.set_cons_succ, List.getElem_toArray, List.getElem_cons_zero, List.getElem_cons_succ]
            refine wpAnyH_take (i := 2) (v := ?_) rfl (by kernel_rfl) (by kernel_rfl) (by kernel_rfl) (fun _ _ _ h => h) (Or.inl ⟨by kernel_rfl, ?_⟩) (by assumption) ?_
            rotate_left
            · (intro w hSw; (try dsimp only at hSw); go_simp)
              try (with_reducible rfl)
            rotate_left
            try simp (maxSteps := 4000000) only [Act.put, List.setIfInBounds_toArray, List.set_cons_zero, List.set_cons_succ, List.getElem_toArray, List.getElem_cons_zero, List.getElem_cons_succ]
            refine wpAnyH_take (i := 5) (v := ?_) rfl (by kernel_rfl) (by kernel_rfl) (by kernel_rfl) (fun _ _ _ h => h) (Or.inl ⟨by kernel_rfl, ?_⟩) (by assumption) ?_
            rotate_left
            · (intro w hSw; (try dsimp only at hSw); go_simp)
              try (with_reducible rfl)
            rotate_left
            try simp (maxSteps := 4000000) only [Act.put, List.setIfInBounds_toArray, List.set_cons_zero, List.set_cons_succ, List.getElem_toArray, List.getElem_cons_zero, List.getElem_cons_succ]
            refine wpAnyH_take (i := 6) (v := ?_) rfl (by kernel_rfl) (by kernel_rfl) (by kernel_rfl) (fun _ _ _ h => h) (Or.inl ⟨by kernel_rfl, ?_⟩) (by assumption) ?_
            rotate_left
            · (intro w hSw; (try dsimp only at hSw); go_simp)
              try (with_reducible rfl)
            rotate_left
            try simp (maxSteps := 4000000) only [Act.put, List.setIfInBounds_toArray, List.set_cons_zero, List.set_cons_succ, List.getElem_toArray, List.getElem_cons_zero, List.getElem_cons_succ]
            refine wpAnyH_take (i := 7) (v := ?_) rfl (by kernel_rfl) (by kernel_rfl) (by kernel_rfl) (fun _ _ _ h => h) (Or.inl ⟨by kernel_rfl, ?_⟩) (by assumption) ?_
            rotate_left
            · (intro w hSw; (try dsimp only at hSw); go_simp)
              try (with_reducible rfl)
            rotate_left
            try simp (maxSteps := 4000000) only [Act.put, List.setIfInBounds_toArray, List.set_cons_zero, List.set_cons_succ, List.getElem_toArray, List.getElem_cons_zero, List.getElem_cons_succ]
            refine wpAnyH_ready (rs := [3]) (by kernel_rfl) (by simp) ?_
            refine AllReadyH.cons rfl (fun K2 hK2 => ?_) AllReadyH.nil
            go_simp
            with_reducible refine Calls.mono K9.out ?_
            rintro e w2 ⟨rfl, hb2⟩
            have HP2 := Lib.hid (HPe.out.later hb2)
            clear hb2 K9
            refine hK2.out _ _ (Lib.hid HP2.out.rat) (fun hHeld2 => ?_)
            clear hK2 K2 hHeld
            have hHeld := hHeld2
            clear hHeld2
            try simp (maxSteps := 4000000) only [Act.put, List.setIfInBounds_toArray, List.set_cons_zero, List.set_cons_succ]
            refine wpAnyH_ready (rs := [8]) (by kernel_rfl) (by simp) ?_
            refine AllReadyH.cons rfl (fun K2 hK2 => ?_) AllReadyH.nil
            go_simp
            with_reducible refine Calls.mono (lerr r res HP2.out.one (a : Int) (n0 : Int) (by have := HN0L.out; omega) w2 HRES.out) ?_
            rintro e w3 ⟨rfl, hb3⟩
            have HP3 := Lib.hid (HP2.out.later hb3)
            clear hb3
            refine hK2.out _ _ (Lib.hid HP3.out.rat) (fun hHeld2 => ?_)
            clear hK2 K2 hHeld
            have hHeld := hHeld2
            clear hHeld2
            try simp (maxSteps := 4000000) only [Act.put, List.setIfInBounds_toArray, List.set_cons_zero, List.set_cons_succ]
            refine wpAnyH_take (i := 9) (v := ?_) rfl (by kernel_rfl) (by kernel_rfl) (by kernel_rfl) (fun _ _ _ h => h) (Or.inl ⟨by kernel_rfl, ?_⟩) (by assumption) ?_
            rotate_left
            · (intro w hSw; (try dsimp only at hSw); go_simp)
              try (with_reducible rfl)
            rotate_left
            try simp (maxSteps := 4000000) only [Act.put, List.setIfInBounds_toArray, List.set_cons_zero, List.set_cons_succ, List.getElem_toArray, List.getElem_cons_zero, List.getElem_cons_succ]
            refine wpAnyH_take (i := 10) (v := ?_) rfl (by kernel_rfl) (by kernel_rfl) (by kernel_rfl) (fun _ _ _ h => h) (Or.inl ⟨by kernel_rfl, ?_⟩) (by assumption) ?_
            rotate_left
            · (intro w hSw; (try dsimp only at hSw); go_simp)
              try (with_reducible rfl)
            rotate_left
            try simp (maxSteps := 4000000) only [Act.put, List.setIfInBounds_toArray, List.set_cons_zero, List.set_cons_succ, List.getElem_toArray, List.getElem_cons_zero, List.getElem_cons_succ]
            refine wpAnyH_done (by kernel_rfl) ?_ _
            have h5 : (res == 0) = false := by simpa using HN0.out
            clear hHeld HRES HRE HN0 h0
            go_wp2_with fail
            go_meet
            exact Lib.hid ⟨res, _, _, cl, rfl, rfl, HP3.out⟩
        ·
          as_aux_lemma =>
          obtain ⟨res, hres⟩ : ∃ x, errE r a n = x := ⟨_, rfl⟩
          have hre : refE σ.pg a n = res := by rw [HPq.out.lk.err (by omega) (by omega) (by omega), hres]
          have HRES := Lib.hid hres
          have HRE := Lib.hid hre
          have HPd := Lib.hid (HPq.out.later (Below.refl _ _).drew)
          have HN9 := Lib.hid hn9
          clear hres hre c0q c2q c3q HPq
          go_upto_region 33 with (fail)
          refine wp_region_held_drew (S := fun w' => Hid (RAt a0 w' r)) (by kernel_rfl) ?_ (fun hHeld => ?_)
          · exact Lib.hid HPd.out.rat
          refine wpAnyH_take (i := 5) (v := .agg r.l.toArray) rfl (by kernel_rfl) (by kernel_rfl) (by kernel_rfl) (fun _ _ _ h => h) (yieldsIf_load_mid (by kernel_rfl) 34 (.tmp 4) rfl a0 0 rfl r.l _ (fun w' hw' => (show Hid (RAt a0 w' r) from hw').out.range) Tryd.underlying34 rfl (RS.info r)) (by assumption) ?_
          try simp (maxSteps := 4000000) only [Act.put, List.setIfInBounds_toArray, List.set_cons_zero, List.set_cons_succ]
          refine wpAnyH_take (i := 0) (v := ?_) rfl (by kernel_rfl) (by kernel_rfl) (by kernel_rfl) (fun _ _ _ h => h) (Or.inl ⟨by kernel_rfl, ?_⟩) (by assumption) ?_
          rotate_left
          · (intro w hSw; (try dsimp only at hSw); go_simp)
            try (with_reducible rfl)
          rotate_left
          try simp (maxSteps := 4000000) only [Act.put, List.setIfInBounds_toArray, List.set_cons_zero, List.set_cons_succ, List.getElem_toArray, List.getElem_cons_zero, List.getElem_cons_succ]
          refine wpAnyH_take (i := 1) (v := ?_) rfl (by kernel_rfl) (by kernel_rfl) (by kernel_rfl) (fun _ _ _ h => h) (Or.inl ⟨by kernel_rfl, ?_⟩) (by assumption) ?_
          rotate_left
          · (intro w hSw; (try dsimp only at hSw); go_simp)
            try (with_reducible rfl)
          rotate_left
          try simp (maxSteps := 4000000) only [Act.put, List.setIfInBounds_toArray, List.set_cons_zero, List.set_cons_succ, List.getElem_toArray, List.getElem_cons_zero, List.getElem_cons_succ]
          refine wpAnyH_take (i := 2) (v := ?_) rfl (by kernel_rfl) (by kernel_rfl) (by kernel_rfl) (fun _ _ _ h => h) (Or.inl ⟨by kernel_rfl, ?_⟩) (by assumption) ?_
          rotate_left
          · (intro w hSw; (try dsimp only at hSw); go_simp)
            try (with_reducible rfl)
          rotate_left
          try simp (maxSteps := 4000000) only [Act.put, List.setIfInBounds_toArray, List.set_cons_zero, List.set_cons_succ, List.getElem_toArray, List.getElem_cons_zero, List.getElem_cons_succ]
          refine wpAnyH_take (i := 3) (v := ?_) rfl (by kernel_rfl) (by kernel_rfl) (by kernel_rfl) (fun _ _ _ h => h) (Or.inl ⟨by kernel_rfl, ?_⟩) (by assumption) ?_
          rotate_left
          · (intro w hSw; (try dsimp only at hSw); go_simp)
            try (with_reducible rfl)
          rotate_left
          try simp (maxSteps := 4000000) only [Act.put, List.setIfInBounds_toArray, List.set_cons_zero, List.set_cons_succ, List.getElem_toArray, List.getElem_cons_zero, List.getElem_cons_succ]
          refine wpAnyH_take (i := 6) (v := ?_) rfl (by kernel_rfl) (by kernel_rfl) (by kernel_rfl) (fun _ _ _ h => h) (Or.inl ⟨by kernel_rfl, ?_⟩) (by assumption) ?_
          rotate_left
          · (intro w hSw; (try dsimp only at hSw); go_simp)
            try (with_reducible rfl)
          rotate_left
          try simp (maxSteps := 4000000) only [Act.put, List.setIfInBounds_toArray, List.set_cons_zero, List.set_cons_succ, List.getElem_toArray, List.getElem_cons_zero, List.getElem_cons_succ]
          refine wpAnyH_take (i := 7) (v := ?_) rfl (by kernel_rfl) (by kernel_rfl) (by kernel_rfl) (fun _ _ _ h => h) (Or.inl ⟨by kernel_rfl, ?_⟩) (by assumption) ?_
          rotate_left
          · (intro w hSw; (try dsimp only at hSw); go_simp)
            try (with_reducible rfl)
          rotate_left
          try simp (maxSteps := 4000000) only [Act.put, List.setIfInBounds_toArray, List.set_cons_zero, List.set_cons_succ, List.getElem_toArray, List.getElem_cons_zero, List.getElem_cons_succ]
          refine wpAnyH_ready (rs := [4]) (by kernel_rfl) (by simp) ?_
          refine AllReadyH.cons rfl (fun K2 hK2 => ?_) AllReadyH.nil
          go_simp
          by_cases h0 : res = 0
          · subst h0
            obtain ⟨z1, z2, z3, z4⟩ := errE_zero HRES.out
            have K9 : Calls Tryd.prog 19 #[.pointer (some ⟨M, 0, none⟩), .agg #[.int .i64 (a : Int), .int .i64 (n : Int)], .int .u8 9] wq.drew fun e w' => e = .returned (.int .i64 0) ∧ MStep v0.heap.size cl M wq.drew (wrS σ a n (fun _ => 9)) w' :=
              mfill_ok a n 9 HPd.out.mem (by rw [open_same HPd.out.lk.same HPd.out.lk.high]; exact z4) (by decide)
            with_reducible refine Calls.mono K9 ?_
            rintro e w2 ⟨rfl, hs⟩
            obtain ⟨cl2, hh⟩ := HPd.out.step hs
            have HH := Lib.hid hh
            have HZ : Hid (1 ≤ n ∧ a + n ≤ 2048 ∧ openR r.o a n = true) := Lib.hid ⟨by omega, by omega, z4⟩
            clear hs hh z1 z2 z3 z4 K9
            refine hK2.out _ _ (Lib.hid HH.out.rat) (fun hHeld2 => ?_)
            clear hK2 K2 hHeld
            have hHeld := hHeld2
            clear hHeld2
            try simp (maxSteps := 4000000) only [Act.put, List.setIfInBounds_toArray, List.set_cons_zero, List.set_cons_succ]
            refine wpAnyH_ready (rs := [8]) (by kernel_rfl) (by simp) ?_
            refine AllReadyH.cons rfl (fun K2 hK2 => ?_) AllReadyH.nil
            go_simp
            with_reducible refine Calls.mono (lerr r 0 HH.out.one (a : Int) (n : Int) (by omega) w2 HRES.out) ?_
            rintro e w3 ⟨rfl, hb3⟩
            have HH3 := Lib.hid (HH.out.later hb3)
            clear hb3 HH
            refine hK2.out _ _ (Lib.hid HH3.out.rat) (fun hHeld2 => ?_)
            clear hK2 K2 hHeld
            have hHeld := hHeld2
            clear hHeld2
            try simp (maxSteps := 4000000) only [Act.put, List.setIfInBounds_toArray, List.set_cons_zero, List.set_cons_succ]
            refine wpAnyH_take (i := 9) (v := ?_) rfl (by kernel_rfl) (by kernel_rfl) (by kernel_rfl) (fun _ _ _ h => h) (Or.inl ⟨by kernel_rfl, ?_⟩) (by assumption) ?_
            rotate_left
            · (intro w hSw; (try dsimp only at hSw); go_simp)
              try (with_reducible rfl)
            rotate_left
            try simp (maxSteps := 4000000) only [Act.put, List.setIfInBounds_toArray, List.set_cons_zero, List.set_cons_succ, List.getElem_toArray, List.getElem_cons_zero, List.getElem_cons_succ]
            refine wpAnyH_take (i := 10) (v := ?_) rfl (by kernel_rfl) (by kernel_rfl) (by kernel_rfl) (fun _ _ _ h => h) (Or.inl ⟨by kernel_rfl, ?_⟩) (by assumption) ?_
            rotate_left
            · (intro w hSw; (try dsimp only at hSw); go_simp)
              try (with_reducible rfl)
            rotate_left
            try simp (maxSteps := 4000000) only [Act.put, List.setIfInBounds_toArray, List.set_cons_zero, List.set_cons_succ, List.getElem_toArray, List.getElem_cons_zero, List.getElem_cons_succ]
            refine wpAnyH_done (by kernel_rfl) ?_ _
            have HL2 := Lib.hid (HPd.out.lk.write (d := fun _ => 9) HZ.out.1 HZ.out.2.1 HZ.out.2.2)
            have HM6 := Lib.hid HPd.out.most
            have hmk := mkN n (by have := HN9.out; omega) w3
            have HPN := Lib.hid (page_new w3 n 5 (fun _ => 9))
            have HB0 := Lib.hid (alc0 w3 (.cells (madeCells #[.int .u8 0] n) 5))
            clear hHeld HPd
            go_wp2_with fail
            obtain ⟨D, hD⟩ : ∃ D, w3.heap.size = D := ⟨_, rfl⟩
            obtain ⟨w4, hw4⟩ : ∃ w4, w3.alloc (.cells (madeCells #[.int .u8 0] n) 5) = w4 := ⟨_, rfl⟩
            have HDD := Lib.hid hD
            rw [hw4] at HPN HB0 ⊢
            rw [hD] at HPN ⊢
            clear hw4 hD hmk
            go_loopw [15] (fun v15 wl => ∃ k : Nat, k ≤ n ∧ v15 = .int .i64 k ∧ Hid (PGn D n wl (fun j => if j < k then 9 else 0)) ∧ Hid (Below w3.heap.size w3 wl)) (fun v15 _ => n - (intOf v15).toNat)
            case atStart => exact ⟨0, by omega, rfl, HPN, HB0⟩
            case round =>
              rename World => wl
              clear HPN HB0
              obtain ⟨k, hk, rfl, HPN, HB0⟩ := hrel
              by_cases hkn : k < n
              · have hkI : (k : Int) < (n : Int) := by omega
                have ca := HPN.out.2.1 k hkn
                have cf := HPN.out.2.2 k
                simp only [Nat.lt_irrefl, if_false] at ca
                have HPN2 := Lib.hid (page_step (d := fun _ => 9) HPN.out hkn 9 rfl)
                have HB2 : Hid (Below w3.heap.size w3 (wl.setCell ⟨D, k, none⟩ (.int .u8 ((9 : Nat) : Int)))) := Lib.hid (HB0.out.setCell (by show w3.heap.size ≤ D; rw [HDD.out]; exact Nat.le_refl _) _)
                clear HPN HB0
                go_wp2_with fail
                go_roundw
                case rel => exact ⟨k + 1, by omega, by go_num, HPN2, HB2⟩
                case measure => simp [intOf] <;> omega
              · obtain rfl : k = n := by omega
                have HPM : Hid (PGn D k wl (fun _ => 9)) := Lib.hid (HPN.out.congr (fun j hj => by rw [if_pos hj]))
                have HH4 := Lib.hid (HH3.out.later HB0.out)
                have HRG := Lib.hid HH4.out.rat.range
                have HI1 := Lib.hid (RS.info r)
                have RW := Lib.hid (fun cp => rwrite r HH4.out.one a k D 0 cp (fun _ => 9) HZ.out.2.1 HZ.out.1 wl (fun i hi => by rw [Nat.zero_add]; exact HPM.out.2.1 i hi) (fun _ _ => (by decide : 9 < 256)))
                clear HPN HB0 hk hkn
                go_wp2_with (refine wpList_load_mid rfl 34 (.tmp 4) rfl a0 0 rfl r.l _ HRG.out Tryd.underlying34 rfl HI1.out ?_)
                refine (RW.out _).mono ?_
                rintro e w5 ⟨rfl, hb5⟩
                have hone := wrN_one HH4.out.one a (fun _ => 9) k
                have HTH := Lib.hid ((HH4.out.later hb5).there (wrN r a (fun _ => 9) k))
                have HI2 := Lib.hid (RS.infoA (wrN r a (fun _ => 9) k))
                have HON := Lib.hid (RS.one hone)
                have HF := Lib.hid (((HH4.out.later hb5).put hone).full HL2.out HM6.out)
                clear hb5 RW hone
                go_wp2_with (refine wpList_store_mid rfl 34 (.tmp 4) (.tmp 161) rfl a0 0 (wrN r a (fun _ => 9) k).l.toArray rfl rfl ?ht31 ?hi31 ?h131 ?_; simpa using HTH.out; exact HI2.out; exact HON.out)
                go_meet
                exact Lib.hid ⟨0, _, _, cl2, rfl, rfl, HF.out⟩
          · have HN0 := Lib.hid h0
            have K9 : Calls Tryd.prog 19 #[.pointer (some ⟨M, 0, none⟩), .agg #[.int .i64 (a : Int), .int .i64 (n : Int)], .int .u8 9] wq.drew fun e w' => e = .returned (.int .i64 res) ∧ Below wq.drew.heap.size wq.drew w' :=
              mfill_no res (a : Int) (n : Int) 9 HPd.out.mem HRE.out HN0.out
            with_reducible refine Calls.mono K9 ?_
            rintro e w2 ⟨rfl, hb2⟩
            have HP2 := Lib.hid (HPd.out.later hb2)
            clear hb2 K9
            refine hK2.out _ _ (Lib.hid HP2.out.rat) (fun hHeld2 => ?_)
            clear hK2 K2 hHeld
            have hHeld := hHeld2
            clear hHeld2
            try simp (maxSteps := 4000000) only [Act.put, List.setIfInBounds_toArray, List.set_cons_zero, List.set_cons_succ]
            refine wpAnyH_ready (rs := [8]) (by kernel_rfl) (by simp) ?_
            refine AllReadyH.cons rfl (fun K2 hK2 => ?_) AllReadyH.nil
            go_simp
            with_reducible refine Calls.mono (lerr r res HP2.out.one (a : Int) (n : Int) (by omega) w2 HRES.out) ?_
            rintro e w3 ⟨rfl, hb3⟩
            have HP3 := Lib.hid (HP2.out.later hb3)
            clear hb3
            refine hK2.out _ _ (Lib.hid HP3.out.rat) (fun hHeld2 => ?_)
            clear hK2 K2 hHeld
            have hHeld := hHeld2
            clear hHeld2
            try simp (maxSteps := 4000000) only [Act.put, List.setIfInBounds_toArray, List.set_cons_zero, List.set_cons_succ]
            refine wpAnyH_take (i := 9) (v := ?_) rfl (by kernel_rfl) (by kernel_rfl) (by kernel_rfl) (fun _ _ _ h => h) (Or.inl ⟨by kernel_rfl, ?_⟩) (by assumption) ?_
            rotate_left
            · (intro w hSw; (try dsimp only at hSw); go_simp)
              try (with_reducible rfl)
            rotate_left
            try simp (maxSteps := 4000000) only [Act.put, List.setIfInBounds_toArray, List.set_cons_zero, List.set_cons_succ, List.getElem_toArray, List.getElem_cons_zero, List.getElem_cons_succ]
            refine wpAnyH_take (i := 10) (v := ?_) rfl (by kernel_rfl) (by kernel_rfl) (by kernel_rfl) (fun _ _ _ h => h) (Or.inl ⟨by kernel_rfl, ?_⟩) (by assumption) ?_
            rotate_left
            · (intro w hSw; (try dsimp only at hSw); go_simp)
              try (with_reducible rfl)
            rotate_left
            try simp (maxSteps := 4000000) only [Act.put, List.setIfInBounds_toArray, List.set_cons_zero, List.set_cons_succ, List.getElem_toArray, List.getElem_cons_zero, List.getElem_cons_succ]
            refine wpAnyH_done (by kernel_rfl) ?_ _
            have h5 : (res == 0) = false := by simpa using HN0.out
            clear hHeld HRES HRE HN0 h0
            go_wp2_with fail
            go_meet
            exact Lib.hid ⟨res, _, _, cl, rfl, rfl, HP3.out⟩
        ·
          as_aux_lemma =>
          have f3 := and15
          obtain ⟨t, ht⟩ : ∃ t : Nat, p.n / 256 % 16 = (t : Int) := ⟨(p.n / 256 % 16).toNat, by omega⟩
          have t16 : t < 16 := by omega
          have HT16 := Lib.hid t16
          go_upto_region 43 with (fail)
          try rw [ht]
          obtain ⟨res, hres⟩ : ∃ x, errE r a n = x := ⟨_, rfl⟩
          have hre : refE σ.pg a n = res := by rw [HPq.out.lk.err (by omega) (by omega) (by omega), hres]
          have HRES := Lib.hid hres
          have HRE := Lib.hid hre
          have HPd := Lib.hid (HPq.out.later (Below.refl _ _).drew)
          clear ht t16 hres hre f3 c0q c2q c3q HPq
          refine wp_region_held_drew (S := fun w' => Hid (RAt a0 w' r)) (by kernel_rfl) ?_ (fun hHeld => ?_)
          · exact Lib.hid HPd.out.rat
          refine wpAnyH_take (i := 6) (v := .agg r.l.toArray) rfl (by kernel_rfl) (by kernel_rfl) (by kernel_rfl) (fun _ _ _ h => h) (yieldsIf_load_mid (by kernel_rfl) 34 (.tmp 4) rfl a0 0 rfl r.l _ (fun w' hw' => (show Hid (RAt a0 w' r) from hw').out.range) Tryd.underlying34 rfl (RS.info r)) (by assumption) ?_
          try simp (maxSteps := 4000000) only [Act.put, List.setIfInBounds_toArray, List.set_cons_zero, List.set_cons_succ]
          refine wpAnyH_take (i := 0) (v := ?_) rfl (by kernel_rfl) (by kernel_rfl) (by kernel_rfl) (fun _ _ _ h => h) (Or.inl ⟨by kernel_rfl, ?_⟩) (by assumption) ?_
          rotate_left
          · (intro w hSw; (try dsimp only at hSw); go_simp)
            try (with_reducible rfl)
          rotate_left
          try simp (maxSteps := 4000000) only [Act.put, List.setIfInBounds_toArray, List.set_cons_zero, List.set_cons_succ, List.getElem_toArray, List.getElem_cons_zero, List.getElem_cons_succ]
          refine wpAnyH_take (i := 1) (v := ?_) rfl (by kernel_rfl) (by kernel_rfl) (by kernel_rfl) (fun _ _ _ h => h) (Or.inl ⟨by kernel_rfl, ?_⟩) (by assumption) ?_
          rotate_left
          · (intro w hSw; (try dsimp only at hSw); go_simp)
            try (with_reducible rfl)
          rotate_left
          try simp (maxSteps := 4000000) only [Act.put, List.setIfInBounds_toArray, List.set_cons_zero, List.set_cons_succ, List.getElem_toArray, List.getElem_cons_zero, List.getElem_cons_succ]
          refine wpAnyH_take (i := 2) (v := ?_) rfl (by kernel_rfl) (by kernel_rfl) (by kernel_rfl) (fun _ _ _ h => h) (Or.inl ⟨by kernel_rfl, ?_⟩) (by assumption) ?_
          rotate_left
          · (intro w hSw; (try dsimp only at hSw); go_simp)
            try (with_reducible rfl)
          rotate_left
          try simp (maxSteps := 4000000) only [Act.put, List.setIfInBounds_toArray, List.set_cons_zero, List.set_cons_succ, List.getElem_toArray, List.getElem_cons_zero, List.getElem_cons_succ]
          refine wpAnyH_take (i := 3) (v := ?_) rfl (by kernel_rfl) (by kernel_rfl) (by kernel_rfl) (fun _ _ _ h => h) (Or.inl ⟨by kernel_rfl, ?_⟩) (by assumption) ?_
          rotate_left
          · (intro w hSw; (try dsimp only at hSw); go_simp)
            try (with_reducible rfl)
          rotate_left
          try simp (maxSteps := 4000000) only [Act.put, List.setIfInBounds_toArray, List.set_cons_zero, List.set_cons_succ, List.getElem_toArray, List.getElem_cons_zero, List.getElem_cons_succ]
          refine wpAnyH_take (i := 4) (v := ?_) rfl (by kernel_rfl) (by kernel_rfl) (by kernel_rfl) (fun _ _ _ h => h) (Or.inl ⟨by kernel_rfl, ?_⟩) (by assumption) ?_
          rotate_left
          · (intro w hSw; (try dsimp only at hSw); go_simp)
            try (with_reducible rfl)
          rotate_left
          try simp (maxSteps := 4000000) only [Act.put, List.setIfInBounds_toArray, List.set_cons_zero, List.set_cons_succ, List.getElem_toArray, List.getElem_cons_zero, List.getElem_cons_succ]
          refine wpAnyH_take (i := 7) (v := ?_) rfl (by kernel_rfl) (by kernel_rfl) (by kernel_rfl) (fun _ _ _ h => h) (Or.inl ⟨by kernel_rfl, ?_⟩) (by assumption) ?_
          rotate_left
          · (intro w hSw; (try dsimp only at hSw); go_simp)
            try (with_reducible rfl)
          rotate_left
          try simp (maxSteps := 4000000) only [Act.put, List.setIfInBounds_toArray, List.set_cons_zero, List.set_cons_succ, List.getElem_toArray, List.getElem_cons_zero, List.getElem_cons_succ]
          refine wpAnyH_take (i := 8) (v := ?_) rfl (by kernel_rfl) (by kernel_rfl) (by kernel_rfl) (fun _ _ _ h => h) (Or.inl ⟨by kernel_rfl, ?_⟩) (by assumption) ?_
          rotate_left
          · (intro w hSw; (try dsimp only at hSw); go_simp)
            try (with_reducible rfl)
          rotate_left
          try simp (maxSteps := 4000000) only [Act.put, List.setIfInBounds_toArray, List.set_cons_zero, List.set_cons_succ, List.getElem_toArray, List.getElem_cons_zero, List.getElem_cons_succ]
          refine wpAnyH_ready (rs := [5]) (by kernel_rfl) (by simp) ?_
          refine AllReadyH.cons rfl (fun K2 hK2 => ?_) AllReadyH.nil
          go_simp
          by_cases h0 : res = 0
          · subst h0
            obtain ⟨z1, z2, z3, z4⟩ := errE_zero HRES.out
            with_reducible refine Calls.mono (msettag_ok (a : Int) (n : Int) t HPd.out.mem HT16.out (by rw [open_same HPd.out.lk.same HPd.out.lk.high]; exact z4)) ?_
            rintro e w2 ⟨rfl, hs⟩
            obtain ⟨cl2, hh⟩ := HPd.out.step hs
            have HH := Lib.hid hh
            have HZ := Lib.hid (And.intro z2 (And.intro z3 z4))
            clear hs hh z1 z2 z3 z4
            refine hK2.out _ _ (Lib.hid HH.out.rat) (fun hHeld2 => ?_)
            clear hK2 K2 hHeld
            have hHeld := hHeld2
            clear hHeld2
            try simp (maxSteps := 4000000) only [Act.put, List.setIfInBounds_toArray, List.set_cons_zero, List.set_cons_succ]
            refine wpAnyH_ready (rs := [9]) (by kernel_rfl) (by simp) ?_
            refine AllReadyH.cons rfl (fun K2 hK2 => ?_) AllReadyH.nil
            go_simp
            with_reducible refine Calls.mono (lerr r 0 HH.out.one (a : Int) (n : Int) (by omega) w2 HRES.out) ?_
            rintro e w3 ⟨rfl, hb3⟩
            have HH3 := Lib.hid (HH.out.later hb3)
            clear hb3 HH
            refine hK2.out _ _ (Lib.hid HH3.out.rat) (fun hHeld2 => ?_)
            clear hK2 K2 hHeld
            have hHeld := hHeld2
            clear hHeld2
            try simp (maxSteps := 4000000) only [Act.put, List.setIfInBounds_toArray, List.set_cons_zero, List.set_cons_succ]
            refine wpAnyH_take (i := 10) (v := ?_) rfl (by kernel_rfl) (by kernel_rfl) (by kernel_rfl) (fun _ _ _ h => h) (Or.inl ⟨by kernel_rfl, ?_⟩) (by assumption) ?_
            rotate_left
            · (intro w hSw; (try dsimp only at hSw); go_simp)
              try (with_reducible rfl)
            rotate_left
            try simp (maxSteps := 4000000) only [Act.put, List.setIfInBounds_toArray, List.set_cons_zero, List.set_cons_succ, List.getElem_toArray, List.getElem_cons_zero, List.getElem_cons_succ]
            refine wpAnyH_take (i := 11) (v := ?_) rfl (by kernel_rfl) (by kernel_rfl) (by kernel_rfl) (fun _ _ _ h => h) (Or.inl ⟨by kernel_rfl, ?_⟩) (by assumption) ?_
            rotate_left
            · (intro w hSw; (try dsimp only at hSw); go_simp)
              try (with_reducible rfl)
            rotate_left
            try simp (maxSteps := 4000000) only [Act.put, List.setIfInBounds_toArray, List.set_cons_zero, List.set_cons_succ, List.getElem_toArray, List.getElem_cons_zero, List.getElem_cons_succ]
            refine wpAnyH_done (by kernel_rfl) ?_ _
            have HRG := Lib.hid HH3.out.rat.range
            have HI1 := Lib.hid (RS.info r)
            obtain ⟨F, hF⟩ : ∃ F : Nat, (a : Int) / 16 = (F : Int) := ⟨a / 16, by omega⟩
            obtain ⟨E, hE⟩ : ∃ E : Nat, ((a : Int) + (n : Int) - 1) / 16 = (E : Int) := ⟨(a + n - 1) / 16, by have := HZ.out.1; omega⟩
            have HFE := Lib.hid (And.intro hF hE)
            have HL2 := Lib.hid (HPd.out.lk.tags (t := t) hF hE (by omega) HZ.out.1 HZ.out.2.1 HZ.out.2.2)
            have RT := Lib.hid (fun W => rtag r HH3.out.one (a : Int) (n : Int) (t : Int) F E hF hE (by omega) HZ.out.1 HZ.out.2.1 W)
            clear hF hE hHeld
            go_wp2_with (refine wpList_load_mid rfl 34 (.tmp 4) rfl a0 0 rfl r.l _ HRG.out Tryd.underlying34 rfl HI1.out ?_)
            refine (RT.out _).mono ?_
            rintro e w4 ⟨rfl, hb4⟩
            have hone : (tagN r F (E - F + 1) (t : Int)).One := HH3.out.one
            have HTH := Lib.hid ((HH3.out.later hb4).there (tagN r F (E - F + 1) (t : Int)))
            have HI2 := Lib.hid (RS.infoA (tagN r F (E - F + 1) (t : Int)))
            have HON := Lib.hid (RS.one hone)
            have HF := Lib.hid (((HH3.out.later hb4).put hone).full HL2.out HPd.out.most)
            clear hb4 RT hone
            go_wp2_with (refine wpList_store_mid rfl 34 (.tmp 4) (.tmp 187) rfl a0 0 (tagN r F (E - F + 1) (t : Int)).l.toArray rfl rfl ?ht41 ?hi41 ?h141 ?_; simpa using HTH.out; exact HI2.out; exact HON.out)
            go_meet
            exact Lib.hid ⟨0, _, _, cl2, rfl, rfl, HF.out⟩
          · have HN0 := Lib.hid h0
            with_reducible refine Calls.mono (msettag_no res (a : Int) (n : Int) (t : Int) HPd.out.mem (.inr ⟨by omega, by have := HT16.out; omega, HRE.out, HN0.out⟩)) ?_
            rintro e w2 ⟨rfl, hb2⟩
            have HP2 := Lib.hid (HPd.out.later hb2)
            clear hb2
            refine hK2.out _ _ (Lib.hid HP2.out.rat) (fun hHeld2 => ?_)
            clear hK2 K2 hHeld
            have hHeld := hHeld2
            clear hHeld2
            try simp (maxSteps := 4000000) only [Act.put, List.setIfInBounds_toArray, List.set_cons_zero, List.set_cons_succ]
            refine wpAnyH_ready (rs := [9]) (by kernel_rfl) (by simp) ?_
            refine AllReadyH.cons rfl (fun K2 hK2 => ?_) AllReadyH.nil
            go_simp
            with_reducible refine Calls.mono (lerr r res HP2.out.one (a : Int) (n : Int) (by omega) w2 HRES.out) ?_
            rintro e w3 ⟨rfl, hb3⟩
            have HP3 := Lib.hid (HP2.out.later hb3)
            clear hb3
            refine hK2.out _ _ (Lib.hid HP3.out.rat) (fun hHeld2 => ?_)
            clear hK2 K2 hHeld
            have hHeld := hHeld2
            clear hHeld2
            try simp (maxSteps := 4000000) only [Act.put, List.setIfInBounds_toArray, List.set_cons_zero, List.set_cons_succ]
            refine wpAnyH_take (i := 10) (v := ?_) rfl (by kernel_rfl) (by kernel_rfl) (by kernel_rfl) (fun _ _ _ h => h) (Or.inl ⟨by kernel_rfl, ?_⟩) (by assumption) ?_
            rotate_left
            · (intro w hSw; (try dsimp only at hSw); go_simp)
              try (with_reducible rfl)
            rotate_left
            try simp (maxSteps := 4000000) only [Act.put, List.setIfInBounds_toArray, List.set_cons_zero, List.set_cons_succ, List.getElem_toArray, List.getElem_cons_zero, List.getElem_cons_succ]
            refine wpAnyH_take (i := 11) (v := ?_) rfl (by kernel_rfl) (by kernel_rfl) (by kernel_rfl) (fun _ _ _ h => h) (Or.inl ⟨by kernel_rfl, ?_⟩) (by assumption) ?_
            rotate_left
            · (intro w hSw; (try dsimp only at hSw); go_simp)
              try (with_reducible rfl)
            rotate_left
            try simp (maxSteps := 4000000) only [Act.put, List.setIfInBounds_toArray, List.set_cons_zero, List.set_cons_succ, List.getElem_toArray, List.getElem_cons_zero, List.getElem_cons_succ]
            refine wpAnyH_done (by kernel_rfl) ?_ _
            have h5 : (res == 0) = false := by simpa using HN0.out
            clear hHeld HRES HRE HN0 h0
            go_wp2_with fail
            go_meet
            exact Lib.hid ⟨res, _, _, cl, rfl, rfl, HP3.out⟩
        ·
          have hmk : ∀ W, (Instr.makeSlice 35 (.int .i64 16) (.int .i64 16)).run Tryd.prog W = .ok (.slice (some ⟨W.heap.size, 0, none⟩) 16 16) (W.alloc (.cells (madeCells #[.int .u8 0] 16) 5)) := fun W => mkN 16 (by decide) W
          have wu : IntKind.u8.wrap (n : Int) = (n : Int) := IntWalk.u8_in _ (by omega)
          have hca := HPq.out.mem.old (Nat.le_refl _)
          have HPN0 := page_new wq 16 5 (fun _ => 0)
          have ca := HPN0.2.1 0 (by decide)
          have cf := HPN0.2.2 0
          have HPN := Lib.hid ((HPN0.set 0 n (by decide)).congr (f' := fun j => if j = 0 then n else 0) (fun j hj => by simp))
          simp only [Nat.lt_irrefl, if_false] at ca
          have HP1 := Lib.hid (HPq.out.later (show Below wq.heap.size wq ((wq.alloc (.cells (madeCells #[.int .u8 0] 16) 5)).setCell ⟨wq.heap.size, 0, none⟩ (.int .u8 (n : Int))) from (alc0 _ _).setCell (Nat.le_refl _) _))
          have HN9 := Lib.hid hn9
          have HCA := Lib.hid hca
          have HMK := Lib.hid hmk
          clear HPN0 hca c0q c2q c3q HPq
          go_upto_region 48 with (fail)
          obtain ⟨wz, hwz⟩ : ∃ wz, wq.alloc (.cells (madeCells #[.int .u8 0] 16) 5) = wz := ⟨_, rfl⟩
          rw [hwz] at HPN HP1 ca cf ⊢
          obtain ⟨D, hD⟩ : ∃ D, wq.heap.size = D := ⟨_, rfl⟩
          rw [hD] at HPN HP1 HCA ca cf ⊢
          clear hwz hD hmk
          go_upto_region 49 with (fail)
          obtain ⟨w1, hw1⟩ : ∃ w1, wz.setCell ⟨D, 0, none⟩ (.int .u8 (n : Int)) = w1 := ⟨_, rfl⟩
          rw [hw1] at HPN HP1 ⊢
          clear hw1 ca cf wu
          obtain ⟨vf, hvf⟩ : ∃ f : Nat → Nat, (fun j => if j = 0 then n else 0) = f := ⟨_, rfl⟩
          have HV0 : Hid (vf 0 = n) := Lib.hid (by rw [← hvf]; exact if_pos rfl)
          rw [hvf] at HPN
          clear hvf
          have HPd := Lib.hid (HP1.out.later (Below.refl _ _).drew)
          have HPNd : Hid (PGn D 16 w1.drew vf) := Lib.hid HPN.out
          clear HP1 HPN
          obtain ⟨res, hres⟩ : ∃ x, errE r a 16 = x := ⟨_, rfl⟩
          have hre : refE σ.pg a 16 = res := by rw [HPd.out.lk.err (by omega) (by omega) (by omega), hres]
          have HRES := Lib.hid hres
          have HRE := Lib.hid hre
          clear hres hre
          have fm : (a : Int).tmod 16 = ((a % 16 : Nat) : Int) := by rw [Int.tmod_eq_emod_of_nonneg (by omega)]; omega
          obtain ⟨m, hm⟩ : ∃ m, a % 16 = m := ⟨_, rfl⟩
          rw [hm] at fm
          by_cases hm0 : m = 0
          · subst hm0
            have fm : (a : Int).tmod 16 = 0 := fm
            by_cases h0 : res = 0
            · subst h0
              obtain ⟨z1, z2, z3, z4⟩ := errE_zero HRES.out
              obtain ⟨g, hg⟩ : ∃ g, a / 16 = g := ⟨_, rfl⟩
              have hag : a = 16 * g := by omega
              have hg8 : g < 128 := by omega
              have HG8 := Lib.hid hg8
              have g1 : (a : Int).tdiv 16 = (g : Int) := by rw [Int.tdiv_eq_ediv_of_nonneg (by omega)]; omega
              have g2 : (a : Int) / 16 = (g : Int) := by omega
              have r0 : (0 : Int) ≤ (g : Int) := by omega
              have r1 : (g : Int) < 128 := by omega
              have r2 : (g : Int).toNat = g := Int.toNat_natCast g
              have wg : IntKind.i64.wrap (g : Int) = (g : Int) := IntWalk.i64_in _ (by omega)
              have HL2 := Lib.hid (HPd.out.lk.keep (d := vf) hag hg8 z4 HV0.out HN9.out)
              have HM6 := Lib.hid HPd.out.most
              have HZ : Hid (a + 16 ≤ 2048 ∧ openR r.o a 16 = true) := Lib.hid ⟨by omega, z4⟩
              have K9 := Lib.hid (mkeep_ok a D 0 16 vf HPd.out.mem hm (by rw [open_same HPd.out.lk.same HPd.out.lk.high]; exact z4) (fun i hi => by rw [Nat.zero_add]; exact HPNd.out.2.1 i hi) HCA.out)
              clear z1 z2 z3 z4 hag hg8 hg hm
              refine wp_region_held_drew (S := fun w' => Hid (RAt a0 w' r)) (by kernel_rfl) ?_ (fun hHeld => ?_)
              · exact Lib.hid HPd.out.rat
              refine wpAnyH_take (i := 4) (v := .agg r.l.toArray) rfl (by kernel_rfl) (by kernel_rfl) (by kernel_rfl) (fun _ _ _ h => h) (yieldsIf_load_mid (by kernel_rfl) 34 (.tmp 4) rfl a0 0 rfl r.l _ (fun w' hw' => (show Hid (RAt a0 w' r) from hw').out.range) Tryd.underlying34 rfl (RS.info r)) (by assumption) ?_
              try simp (maxSteps := 4000000) only [Act.put, List.setIfInBounds_toArray, List.set_cons_zero, List.set_cons_succ]
              refine wpAnyH_take (i := 0) (v := ?_) rfl (by kernel_rfl) (by kernel_rfl) (by kernel_rfl) (fun _ _ _ h => h) (Or.inl ⟨by kernel_rfl, ?_⟩) (by assumption) ?_
              rotate_left
              · (intro w hSw; (try dsimp only at hSw); go_simp)
                try (with_reducible rfl)
              rotate_left
              try simp (maxSteps := 4000000) only [Act.put, List.setIfInBounds_toArray, List.set_cons_zero, List.set_cons_succ, List.getElem_toArray, List.getElem_cons_zero, List.getElem_cons_succ]
              refine wpAnyH_take (i := 1) (v := ?_) rfl (by kernel_rfl) (by kernel_rfl) (by kernel_rfl) (fun _ _ _ h => h) (Or.inl ⟨by kernel_rfl, ?_⟩) (by assumption) ?_
              rotate_left
              · (intro w hSw; (try dsimp only at hSw); go_simp)
                try (with_reducible rfl)
              rotate_left
              try simp (maxSteps := 4000000) only [Act.put, List.setIfInBounds_toArray, List.set_cons_zero, List.set_cons_succ, List.getElem_toArray, List.getElem_cons_zero, List.getElem_cons_succ]
              refine wpAnyH_take (i := 2) (v := ?_) rfl (by kernel_rfl) (by kernel_rfl) (by kernel_rfl) (fun _ _ _ h => h) (Or.inl ⟨by kernel_rfl, ?_⟩) (by assumption) ?_
              rotate_left
              · (intro w hSw; (try dsimp only at hSw); go_simp)
                try (with_reducible rfl)
              rotate_left
              try simp (maxSteps := 4000000) only [Act.put, List.setIfInBounds_toArray, List.set_cons_zero, List.set_cons_succ, List.getElem_toArray, List.getElem_cons_zero, List.getElem_cons_succ]
              refine wpAnyH_take (i := 5) (v := ?_) rfl (by kernel_rfl) (by kernel_rfl) (by kernel_rfl) (fun _ _ _ h => h) (Or.inl ⟨by kernel_rfl, ?_⟩) (by assumption) ?_
              rotate_left
              · (intro w hSw; (try dsimp only at hSw); go_simp)
                try (with_reducible rfl)
              rotate_left
              try simp (maxSteps := 4000000) only [Act.put, List.setIfInBounds_toArray, List.set_cons_zero, List.set_cons_succ, List.getElem_toArray, List.getElem_cons_zero, List.getElem_cons_succ]
              refine wpAnyH_ready (rs := [3]) (by kernel_rfl) (by simp) ?_
              refine AllReadyH.cons rfl (fun K2 hK2 => ?_) AllReadyH.nil
              go_simp
              with_reducible refine Calls.mono K9.out ?_
              rintro e w2 ⟨rfl, hs⟩
              obtain ⟨cl2, hh⟩ := HPd.out.step hs
              have HH := Lib.hid hh
              clear hs hh K9
              refine hK2.out _ _ (Lib.hid HH.out.rat) (fun hHeld2 => ?_)
              clear hK2 K2 hHeld
              have hHeld := hHeld2
              clear hHeld2
              try simp (maxSteps := 4000000) only [Act.put, List.setIfInBounds_toArray, List.set_cons_zero, List.set_cons_succ]
              refine wpAnyH_ready (rs := [6]) (by kernel_rfl) (by simp) ?_
              refine AllReadyH.cons rfl (fun K2 hK2 => ?_) AllReadyH.nil
              go_simp
              with_reducible refine Calls.mono (lerr r 0 HH.out.one (a : Int) 16 (by decide) w2 HRES.out) ?_
              rintro e w3 ⟨rfl, hb3⟩
              have HH3 := Lib.hid (HH.out.later hb3)
              clear hb3 HH
              refine hK2.out _ _ (Lib.hid HH3.out.rat) (fun hHeld2 => ?_)
              clear hK2 K2 hHeld
              have hHeld := hHeld2
              clear hHeld2
              try simp (maxSteps := 4000000) only [Act.put, List.setIfInBounds_toArray, List.set_cons_zero, List.set_cons_succ]
              refine wpAnyH_take (i := 7) (v := ?_) rfl (by kernel_rfl) (by kernel_rfl) (by kernel_rfl) (fun _ _ _ h => h) (Or.inl ⟨by kernel_rfl, ?_⟩) (by assumption) ?_
              rotate_left
              · (intro w hSw; (try dsimp only at hSw); go_simp)
                try (with_reducible rfl)
              rotate_left
              try simp (maxSteps := 4000000) only [Act.put, List.setIfInBounds_toArray, List.set_cons_zero, List.set_cons_succ, List.getElem_toArray, List.getElem_cons_zero, List.getElem_cons_succ]
              refine wpAnyH_take (i := 8) (v := ?_) rfl (by kernel_rfl) (by kernel_rfl) (by kernel_rfl) (fun _ _ _ h => h) (Or.inl ⟨by kernel_rfl, ?_⟩) (by assumption) ?_
              rotate_left
              · (intro w hSw; (try dsimp only at hSw); go_simp)
                try (with_reducible rfl)
              rotate_left
              try simp (maxSteps := 4000000) only [Act.put, List.setIfInBounds_toArray, List.set_cons_zero, List.set_cons_succ, List.getElem_toArray, List.getElem_cons_zero, List.getElem_cons_succ]
              refine wpAnyH_done (by kernel_rfl) ?_ _
              clear hHeld
              go_upto_region 53 with (fail)
              have hmk := HMK.out
              refine wp_region_held_drew (S := fun w' => True) (by kernel_rfl) trivial (fun hHeld => ?_)
              refine wpAnyH_take (i := 1) (v := .int .i64 (a : Int)) rfl (by kernel_rfl) (by kernel_rfl) (by kernel_rfl) (fun _ _ _ h => h) (Or.inl ⟨by kernel_rfl, fun w' _ => by go_simp⟩) trivial ?_
              try simp (maxSteps := 4000000) only [Act.put, List.setIfInBounds_toArray, List.set_cons_zero, List.set_cons_succ]
              have HI1 := Lib.hid (RS.info r)
              have HQ := Lib.hid (HH3.out.later (show Below w3.heap.size w3 (w3.alloc (.cells (madeCells #[.int .u8 0] 16) 5)).drew from (alc0 w3 _).drew))
              have HPZ : Hid (∀ i, i < 16 → (w3.alloc (.cells (madeCells #[.int .u8 0] 16) 5)).drew.cell? ⟨w3.heap.size, 0 + i, none⟩ = some (.int .u8 ((fun _ => 0 : Nat → Nat) i : Int))) := Lib.hid (fun i hi => by rw [Nat.zero_add]; exact made_cell w3 16 _ i hi)
              have HRG := Lib.hid HH3.out.rat.range
              have HRQ := Lib.hid HQ.out.rat.range
              refine wpAnyH_ready (rs := [0, 2]) (by kernel_rfl) (by simp) ?_
              refine AllReadyH.cons rfl (fun K2 hK2 => ?_) (AllReadyH.cons rfl (fun K2 hK2 => ?_) AllReadyH.nil)
              · refine wp_load_mid 34 (.tmp 4) rfl a0 0 rfl r.l _ (show w3.drew.rangeAt a0 0 r.l from HRG.out) Tryd.underlying34 rfl HI1.out ?_
                refine hK2.out _ _ (trivial) (fun hHeld2 => ?_)
                clear hK2 K2 hHeld
                have hHeld := hHeld2
                clear hHeld2
                try simp (maxSteps := 4000000) only [Act.put, List.setIfInBounds_toArray, List.set_cons_zero, List.set_cons_succ]
                refine wpAnyH_ready (rs := [2]) (by kernel_rfl) (by simp) ?_
                refine AllReadyH.cons rfl (fun K2 hK2 => ?_) AllReadyH.nil
                go_simp
                refine hK2.out _ _ (trivial) (fun hHeld2 => ?_)
                clear hK2 K2 hHeld
                have hHeld := hHeld2
                clear hHeld2
                try simp (maxSteps := 4000000) only [Act.put, List.setIfInBounds_toArray, List.set_cons_zero, List.set_cons_succ]
                refine wpAnyH_ready (rs := [3]) (by kernel_rfl) (by simp) ?_
                refine AllReadyH.cons rfl (fun K2 hK2 => ?_) AllReadyH.nil
                go_simp
                generalize (w3.alloc (.cells (madeCells #[.int .u8 0] 16) 5)).drew = w4 at *
                generalize w3.heap.size = DZ at *
                have RW := Lib.hid (fun cp => rwrite r HQ.out.one a 16 DZ 0 cp (fun _ => 0) HZ.out.1 (by decide) w4 HPZ.out (fun _ _ => (by decide : 0 < 256)))
                refine (RW.out _).mono ?_
                rintro e w5 ⟨rfl, hb5⟩
                have hone := wrN_one HQ.out.one a (fun _ => 0) 16
                have HTH := Lib.hid ((HQ.out.later hb5).there (wrN r a (fun _ => 0) 16))
                have HI2 := Lib.hid (RS.infoA (wrN r a (fun _ => 0) 16))
                have HON := Lib.hid (RS.one hone)
                have HQ2 := Lib.hid ((HQ.out.later hb5).put hone)
                clear hb5 RW hone
                refine hK2.out _ _ (trivial) (fun hHeld2 => ?_)
                clear hK2 K2 hHeld
                have hHeld := hHeld2
                clear hHeld2
                try simp (maxSteps := 4000000) only [Act.put, List.setIfInBounds_toArray, List.set_cons_zero, List.set_cons_succ]
                refine wpAnyH_ready (rs := [4]) (by kernel_rfl) (by simp) ?_
                refine AllReadyH.cons rfl (fun K2 hK2 => ?_) AllReadyH.nil
                refine wp_store_mid 34 (.tmp 4) (.tmp 210) rfl a0 0 (wrN r a (fun _ => 0) 16).l.toArray rfl rfl (by simpa using HTH.out) HI2.out HON.out ?_
                refine hK2.out _ _ (trivial) (fun hHeld2 => ?_)
                clear hK2 K2 hHeld
                have hHeld := hHeld2
                clear hHeld2
                try simp (maxSteps := 4000000) only [Act.put, List.setIfInBounds_toArray, List.set_cons_zero, List.set_cons_succ]
                refine wpAnyH_done (by kernel_rfl) ?_ _
                have h54 : (#[.int .i64 (n : Int), .int .i64 0, .int .i64 0, .int .i64 0, .int .i64 0, .bool false] : Array Value).size = 6 := rfl
                have HQ3 : Hid (MHalf v0.heap.size M a0 v0 (keepS σ a vf) (wrN r a (fun _ => 0) 16) cl2 (w5.setCells a0 0 (wrN r a (fun _ => 0) 16).l)) := Lib.hid HQ2.out
                generalize w5.setCells a0 0 (wrN r a (fun _ => 0) 16).l = w6 at *
                have k3 := (HQ3.out.rat.2 (2184 + g) (by have := HG8.out; omega)).1
                have k4 := (HQ3.out.rat.2 (2184 + g) (by have := HG8.out; omega)).2
                rw [RS.ck _ HG8.out] at k3
                have HTK : Hid ((w6.setCell ⟨a0, 2184 + g, none⟩ (.bool true)).there a0 (2312 + g * 6) (#[.int .i64 (n : Int), .int .i64 0, .int .i64 0, .int .i64 0, .int .i64 0, .bool false] : Array Value).size) := Lib.hid (rat_thkv HQ3.out.rat HG8.out true)
                have HF := Lib.hid ((HQ3.out.kv HG8.out true (vb n) (capB n) rfl (fun q hq => capB_at n g q hq) (fun x _ _ => vb_one n x)).full HL2.out HM6.out)
                generalize (wrN r a (fun _ => 0) 16).k g = rk at k3
                clear HQ HQ2 HQ3 hHeld h54
                go_wp2_with (refine wpList_store_mid rfl 31 (.tmp 220) (.tmp 216) rfl a0 (2312 + g * 6) #[.int .i64 (n : Int), .int .i64 0, .int .i64 0, .int .i64 0, .int .i64 0, .bool false] rfl rfl ?ht51 capInfo (capBOne n) ?_; simpa using HTK.out)
                go_wp2_with fail
                go_meet
                exact Lib.hid ⟨0, _, _, cl2, rfl, rfl, HF.out⟩
              · go_simp
                refine hK2.out _ _ (trivial) (fun hHeld2 => ?_)
                clear hK2 K2 hHeld
                have hHeld := hHeld2
                clear hHeld2
                try simp (maxSteps := 4000000) only [Act.put, List.setIfInBounds_toArray, List.set_cons_zero, List.set_cons_succ]
                generalize (w3.alloc (.cells (madeCells #[.int .u8 0] 16) 5)).drew = w4 at *
                generalize w3.heap.size = DZ at *
                refine wpAnyH_ready (rs := [0]) (by kernel_rfl) (by simp) ?_
                refine AllReadyH.cons rfl (fun K2 hK2 => ?_) AllReadyH.nil
                refine wp_load_mid 34 (.tmp 4) rfl a0 0 rfl r.l _ HRQ.out Tryd.underlying34 rfl HI1.out ?_
                refine hK2.out _ _ (trivial) (fun hHeld2 => ?_)
                clear hK2 K2 hHeld
                have hHeld := hHeld2
                clear hHeld2
                try simp (maxSteps := 4000000) only [Act.put, List.setIfInBounds_toArray, List.set_cons_zero, List.set_cons_succ]
                refine wpAnyH_ready (rs := [3]) (by kernel_rfl) (by simp) ?_
                refine AllReadyH.cons rfl (fun K2 hK2 => ?_) AllReadyH.nil
                go_simp
                have RW := Lib.hid (fun cp => rwrite r HQ.out.one a 16 DZ 0 cp (fun _ => 0) HZ.out.1 (by decide) w4 HPZ.out (fun _ _ => (by decide : 0 < 256)))
                refine (RW.out _).mono ?_
                rintro e w5 ⟨rfl, hb5⟩
                have hone := wrN_one HQ.out.one a (fun _ => 0) 16
                have HTH := Lib.hid ((HQ.out.later hb5).there (wrN r a (fun _ => 0) 16))
                have HI2 := Lib.hid (RS.infoA (wrN r a (fun _ => 0) 16))
                have HON := Lib.hid (RS.one hone)
                have HQ2 := Lib.hid ((HQ.out.later hb5).put hone)
                clear hb5 RW hone
                refine hK2.out _ _ (trivial) (fun hHeld2 => ?_)
                clear hK2 K2 hHeld
                have hHeld := hHeld2
                clear hHeld2
                try simp (maxSteps := 4000000) only [Act.put, List.setIfInBounds_toArray, List.set_cons_zero, List.set_cons_succ]
                refine wpAnyH_ready (rs := [4]) (by kernel_rfl) (by simp) ?_
                refine AllReadyH.cons rfl (fun K2 hK2 => ?_) AllReadyH.nil
                refine wp_store_mid 34 (.tmp 4) (.tmp 210) rfl a0 0 (wrN r a (fun _ => 0) 16).l.toArray rfl rfl (by simpa using HTH.out) HI2.out HON.out ?_
                refine hK2.out _ _ (trivial) (fun hHeld2 => ?_)
                clear hK2 K2 hHeld
                have hHeld := hHeld2
                clear hHeld2
                try simp (maxSteps := 4000000) only [Act.put, List.setIfInBounds_toArray, List.set_cons_zero, List.set_cons_succ]
                refine wpAnyH_done (by kernel_rfl) ?_ _
                have h54 : (#[.int .i64 (n : Int), .int .i64 0, .int .i64 0, .int .i64 0, .int .i64 0, .bool false] : Array Value).size = 6 := rfl
                have HQ3 : Hid (MHalf v0.heap.size M a0 v0 (keepS σ a vf) (wrN r a (fun _ => 0) 16) cl2 (w5.setCells a0 0 (wrN r a (fun _ => 0) 16).l)) := Lib.hid HQ2.out
                generalize w5.setCells a0 0 (wrN r a (fun _ => 0) 16).l = w6 at *
                have k3 := (HQ3.out.rat.2 (2184 + g) (by have := HG8.out; omega)).1
                have k4 := (HQ3.out.rat.2 (2184 + g) (by have := HG8.out; omega)).2
                rw [RS.ck _ HG8.out] at k3
                have HTK : Hid ((w6.setCell ⟨a0, 2184 + g, none⟩ (.bool true)).there a0 (2312 + g * 6) (#[.int .i64 (n : Int), .int .i64 0, .int .i64 0, .int .i64 0, .int .i64 0, .bool false] : Array Value).size) := Lib.hid (rat_thkv HQ3.out.rat HG8.out true)
                have HF := Lib.hid ((HQ3.out.kv HG8.out true (vb n) (capB n) rfl (fun q hq => capB_at n g q hq) (fun x _ _ => vb_one n x)).full HL2.out HM6.out)
                generalize (wrN r a (fun _ => 0) 16).k g = rk at k3
                clear HQ HQ2 HQ3 hHeld h54
                go_wp2_with (refine wpList_store_mid rfl 31 (.tmp 220) (.tmp 216) rfl a0 (2312 + g * 6) #[.int .i64 (n : Int), .int .i64 0, .int .i64 0, .int .i64 0, .int .i64 0, .bool false] rfl rfl ?ht52 capInfo (capBOne n) ?_; simpa using HTK.out)
                go_wp2_with fail
                go_meet
                exact Lib.hid ⟨0, _, _, cl2, rfl, rfl, HF.out⟩
            · have HN0 := Lib.hid h0
              have K9 := Lib.hid (mkeep_no res (a : Int) (some ⟨D, 0, none⟩) 16 16 HPd.out.mem (.inr (.inr ⟨rfl, fm, HRE.out, HN0.out⟩)) (by decide))
              refine wp_region_held_drew (S := fun w' => Hid (RAt a0 w' r)) (by kernel_rfl) ?_ (fun hHeld => ?_)
              · exact Lib.hid HPd.out.rat
              refine wpAnyH_take (i := 4) (v := .agg r.l.toArray) rfl (by kernel_rfl) (by kernel_rfl) (by kernel_rfl) (fun _ _ _ h => h) (yieldsIf_load_mid (by kernel_rfl) 34 (.tmp 4) rfl a0 0 rfl r.l _ (fun w' hw' => (show Hid (RAt a0 w' r) from hw').out.range) Tryd.underlying34 rfl (RS.info r)) (by assumption) ?_
              try simp (maxSteps := 4000000) only [Act.put, List.setIfInBounds_toArray, List.set_cons_zero, List.set_cons_succ]
              refine wpAnyH_take (i := 0) (v := ?_) rfl (by kernel_rfl) (by kernel_rfl) (by kernel_rfl) (fun _ _ _ h => h) (Or.inl ⟨by kernel_rfl, ?_⟩) (by assumption) ?_
              rotate_left
              · (intro w hSw; (try dsimp only at hSw); go_simp)
                try (with_reducible rfl)
              rotate_left
              try simp (maxSteps := 4000000) only [Act.put, List.setIfInBounds_toArray, List.set_cons_zero, List.set_cons_succ, List.getElem_toArray, List.getElem_cons_zero, List.getElem_cons_succ]
              refine wpAnyH_take (i := 1) (v := ?_) rfl (by kernel_rfl) (by kernel_rfl) (by kernel_rfl) (fun _ _ _ h => h) (Or.inl ⟨by kernel_rfl, ?_⟩) (by assumption) ?_
              rotate_left
              · (intro w hSw; (try dsimp only at hSw); go_simp)
                try (with_reducible rfl)
              rotate_left
              try simp (maxSteps := 4000000) only [Act.put, List.setIfInBounds_toArray, List.set_cons_zero, List.set_cons_succ, List.getElem_toArray, List.getElem_cons_zero, List.getElem_cons_succ]
              refine wpAnyH_take (i := 2) (v := ?_) rfl (by kernel_rfl) (by kernel_rfl) (by kernel_rfl) (fun _ _ _ h => h) (Or.inl ⟨by kernel_rfl, ?_⟩) (by assumption) ?_
              rotate_left
              · (intro w hSw; (try dsimp only at hSw); go_simp)
                try (with_reducible rfl)
              rotate_left
              try simp (maxSteps := 4000000) only [Act.put, List.setIfInBounds_toArray, List.set_cons_zero, List.set_cons_succ, List.getElem_toArray, List.getElem_cons_zero, List.getElem_cons_succ]
              refine wpAnyH_take (i := 5) (v := ?_) rfl (by kernel_rfl) (by kernel_rfl) (by kernel_rfl) (fun _ _ _ h => h) (Or.inl ⟨by kernel_rfl, ?_⟩) (by assumption) ?_
              rotate_left
              · (intro w hSw; (try dsimp only at hSw); go_simp)
                try (with_reducible rfl)
              rotate_left
              try simp (maxSteps := 4000000) only [Act.put, List.setIfInBounds_toArray, List.set_cons_zero, List.set_cons_succ, List.getElem_toArray, List.getElem_cons_zero, List.getElem_cons_succ]
              refine wpAnyH_ready (rs := [3]) (by kernel_rfl) (by simp) ?_
              refine AllReadyH.cons rfl (fun K2 hK2 => ?_) AllReadyH.nil
              go_simp
              with_reducible refine Calls.mono K9.out ?_
              rintro e w2 ⟨rfl, hb2⟩
              have HP2 := Lib.hid (HPd.out.later hb2)
              clear hb2 K9
              refine hK2.out _ _ (Lib.hid HP2.out.rat) (fun hHeld2 => ?_)
              clear hK2 K2 hHeld
              have hHeld := hHeld2
              clear hHeld2
              try simp (maxSteps := 4000000) only [Act.put, List.setIfInBounds_toArray, List.set_cons_zero, List.set_cons_succ]
              refine wpAnyH_ready (rs := [6]) (by kernel_rfl) (by simp) ?_
              refine AllReadyH.cons rfl (fun K2 hK2 => ?_) AllReadyH.nil
              go_simp
              with_reducible refine Calls.mono (lerr r res HP2.out.one (a : Int) 16 (by decide) w2 HRES.out) ?_
              rintro e w3 ⟨rfl, hb3⟩
              have HP3 := Lib.hid (HP2.out.later hb3)
              clear hb3
              refine hK2.out _ _ (Lib.hid HP3.out.rat) (fun hHeld2 => ?_)
              clear hK2 K2 hHeld
              have hHeld := hHeld2
              clear hHeld2
              try simp (maxSteps := 4000000) only [Act.put, List.setIfInBounds_toArray, List.set_cons_zero, List.set_cons_succ]
              refine wpAnyH_take (i := 7) (v := ?_) rfl (by kernel_rfl) (by kernel_rfl) (by kernel_rfl) (fun _ _ _ h => h) (Or.inl ⟨by kernel_rfl, ?_⟩) (by assumption) ?_
              rotate_left
              · (intro w hSw; (try dsimp only at hSw); go_simp)
                try (with_reducible rfl)
              rotate_left
              try simp (maxSteps := 4000000) only [Act.put, List.setIfInBounds_toArray, List.set_cons_zero, List.set_cons_succ, List.getElem_toArray, List.getElem_cons_zero, List.getElem_cons_succ]
              refine wpAnyH_take (i := 8) (v := ?_) rfl (by kernel_rfl) (by kernel_rfl) (by kernel_rfl) (fun _ _ _ h => h) (Or.inl ⟨by kernel_rfl, ?_⟩) (by assumption) ?_
              rotate_left
              · (intro w hSw; (try dsimp only at hSw); go_simp)
                try (with_reducible rfl)
              rotate_left
              try simp (maxSteps := 4000000) only [Act.put, List.setIfInBounds_toArray, List.set_cons_zero, List.set_cons_succ, List.getElem_toArray, List.getElem_cons_zero, List.getElem_cons_succ]
              refine wpAnyH_done (by kernel_rfl) ?_ _
              have h5 : (res == 0) = false := by simpa using HN0.out
              clear hHeld HRES HRE HN0 h0
              go_wp2_with fail
              go_meet
              exact Lib.hid ⟨res, _, _, cl, rfl, rfl, HP3.out⟩
          · have hm1 : ¬ (m : Int) = 0 := by omega
            have K9 := Lib.hid (mkeep_no 10 (a : Int) (some ⟨D, 0, none⟩) 16 16 HPd.out.mem (.inr (.inl ⟨rfl, by rw [fm]; exact hm1, rfl⟩)) (by decide))
            refine wp_region_held_drew (S := fun w' => Hid (RAt a0 w' r)) (by kernel_rfl) ?_ (fun hHeld => ?_)
            · exact Lib.hid HPd.out.rat
            refine wpAnyH_take (i := 4) (v := .agg r.l.toArray) rfl (by kernel_rfl) (by kernel_rfl) (by kernel_rfl) (fun _ _ _ h => h) (yieldsIf_load_mid (by kernel_rfl) 34 (.tmp 4) rfl a0 0 rfl r.l _ (fun w' hw' => (show Hid (RAt a0 w' r) from hw').out.range) Tryd.underlying34 rfl (RS.info r)) (by assumption) ?_
            try simp (maxSteps := 4000000) only [Act.put, List.setIfInBounds_toArray, List.set_cons_zero, List.set_cons_succ]
            refine wpAnyH_take (i := 0) (v := ?_) rfl (by kernel_rfl) (by kernel_rfl) (by kernel_rfl) (fun _ _ _ h => h) (Or.inl ⟨by kernel_rfl, ?_⟩) (by assumption) ?_
            rotate_left
            · (intro w hSw; (try dsimp only at hSw); go_simp)
              try (with_reducible rfl)
            rotate_left
            try simp (maxSteps := 4000000) only [Act.put, List.setIfInBounds_toArray, List.set_cons_zero, List.set_cons_succ, List.getElem_toArray, List.getElem_cons_zero, List.getElem_cons_succ]
            refine wpAnyH_take (i := 1) (v := ?_) rfl (by kernel_rfl) (by kernel_rfl) (by kernel_rfl) (fun _ _ _ h => h) (Or.inl ⟨by kernel_rfl, ?_⟩) (by assumption) ?_
            rotate_left
            · (intro w hSw; (try dsimp only at hSw); go_simp)
              try (with_reducible rfl)
            rotate_left
            try simp (maxSteps := 4000000) only [Act.put, List.setIfInBounds_toArray, List.set_cons_zero, List.set_cons_succ, List.getElem_toArray, List.getElem_cons_zero, List.getElem_cons_succ]
            refine wpAnyH_take (i := 2) (v := ?_) rfl (by kernel_rfl) (by kernel_rfl) (by kernel_rfl) (fun _ _ _ h => h) (Or.inl ⟨by kernel_rfl, ?_⟩) (by assumption) ?_
            rotate_left
            · (intro w hSw; (try dsimp only at hSw); go_simp)
              try (with_reducible rfl)
            rotate_left
            try simp (maxSteps := 4000000) only [Act.put, List.setIfInBounds_toArray, List.set_cons_zero, List.set_cons_succ, List.getElem_toArray, List.getElem_cons_zero, List.getElem_cons_succ]
            refine wpAnyH_take (i := 5) (v := ?_) rfl (by kernel_rfl) (by kernel_rfl) (by kernel_rfl) (fun _ _ _ h => h) (Or.inl ⟨by kernel_rfl, ?_⟩) (by assumption) ?_
            rotate_left
            · (intro w hSw; (try dsimp only at hSw); go_simp)
              try (with_reducible rfl)
            rotate_left
            try simp (maxSteps := 4000000) only [Act.put, List.setIfInBounds_toArray, List.set_cons_zero, List.set_cons_succ, List.getElem_toArray, List.getElem_cons_zero, List.getElem_cons_succ]
            refine wpAnyH_ready (rs := [3]) (by kernel_rfl) (by simp) ?_
            refine AllReadyH.cons rfl (fun K2 hK2 => ?_) AllReadyH.nil
            go_simp
            with_reducible refine Calls.mono K9.out ?_
            rintro e w2 ⟨rfl, hb2⟩
            have HP2 := Lib.hid (HPd.out.later hb2)
            clear hb2 K9
            refine hK2.out _ _ (Lib.hid HP2.out.rat) (fun hHeld2 => ?_)
            clear hK2 K2 hHeld
            have hHeld := hHeld2
            clear hHeld2
            try simp (maxSteps := 4000000) only [Act.put, List.setIfInBounds_toArray, List.set_cons_zero, List.set_cons_succ]
            refine wpAnyH_ready (rs := [6]) (by kernel_rfl) (by simp) ?_
            refine AllReadyH.cons rfl (fun K2 hK2 => ?_) AllReadyH.nil
            go_simp
            with_reducible refine Calls.mono (lerr r res HP2.out.one (a : Int) 16 (by decide) w2 HRES.out) ?_
            rintro e w3 ⟨rfl, hb3⟩
            have HP3 := Lib.hid (HP2.out.later hb3)
            clear hb3
            refine hK2.out _ _ (Lib.hid HP3.out.rat) (fun hHeld2 => ?_)
            clear hK2 K2 hHeld
            have hHeld := hHeld2
            clear hHeld2
            try simp (maxSteps := 4000000) only [Act.put, List.setIfInBounds_toArray, List.set_cons_zero, List.set_cons_succ]
            refine wpAnyH_take (i := 7) (v := ?_) rfl (by kernel_rfl) (by kernel_rfl) (by kernel_rfl) (fun _ _ _ h => h) (Or.inl ⟨by kernel_rfl, ?_⟩) (by assumption) ?_
            rotate_left
            · (intro w hSw; (try dsimp only at hSw); go_simp)
              try (with_reducible rfl)
            rotate_left
            try simp (maxSteps := 4000000) only [Act.put, List.setIfInBounds_toArray, List.set_cons_zero, List.set_cons_succ, List.getElem_toArray, List.getElem_cons_zero, List.getElem_cons_succ]
            refine wpAnyH_take (i := 8) (v := ?_) rfl (by kernel_rfl) (by kernel_rfl) (by kernel_rfl) (fun _ _ _ h => h) (Or.inl ⟨by kernel_rfl, ?_⟩) (by assumption) ?_
            rotate_left
            · (intro w hSw; (try dsimp only at hSw); go_simp)
              try (with_reducible rfl)
            rotate_left
            try simp (maxSteps := 4000000) only [Act.put, List.setIfInBounds_toArray, List.set_cons_zero, List.set_cons_succ, List.getElem_toArray, List.getElem_cons_zero, List.getElem_cons_succ]
            refine wpAnyH_done (by kernel_rfl) ?_ _
            clear hHeld HRES HRE
            go_wp2_with fail
            go_meet
            exact Lib.hid ⟨10, _, _, cl, rfl, rfl, HP3.out⟩
        ·
          as_aux_lemma =>
          have g1 : (a : Int).tdiv 16 = ((a / 16 : Nat) : Int) := by rw [Int.tdiv_eq_ediv_of_nonneg (by omega)]; omega
          have g2 : (a : Int) / 16 = ((a / 16 : Nat) : Int) := by omega
          obtain ⟨g, hg⟩ : ∃ g, a / 16 = g := ⟨_, rfl⟩
          rw [hg] at g1 g2
          have hg8 : g < 128 := by omega
          have r0 : (0 : Int) ≤ (g : Int) := by omega
          have r1 : (g : Int) < 128 := by omega
          have r2 : (g : Int).toNat = g := Int.toNat_natCast g
          have wg : IntKind.i64.wrap (g : Int) = (g : Int) := IntWalk.i64_in _ (by omega)
          have HG8 := Lib.hid hg8
          have k1 := (HPq.out.rat.2 (2184 + g) (by omega)).1
          rw [RS.ck _ hg8, HPq.out.lk.kep g hg8] at k1
          have hza := HPq.out.rat.1
          clear hg
          cases hk : σ.kp g with
          | false =>
            have HKN : Hid ((decide (0 ≤ (g : Int) ∧ (g : Int) < 16384) && σ.kp (g : Int).toNat) = false) := Lib.hid (by rw [Int.toNat_natCast, hk, Bool.and_false])
            rw [hk] at k1
            have HL2 := Lib.hid (HPq.out.lk.clear (kp := σ.kp) HG8.out (fun y => by
              by_cases e : g = y
              · subst e; rw [hk]; rfl
              · rw [decide_eq_false e, Bool.not_false, Bool.and_true]))
            have HPd := Lib.hid (HPq.out.later (Below.refl _ _).drew)
            clear hk
            go_upto_region 10 with (fail)
            refine wp_region_held_drew (S := fun w' => w'.cell? ⟨a0, 2184 + g, none⟩ = some (.bool false)) (by kernel_rfl) ?_ (fun hHeld => ?_)
            · exact k1
            refine wpAnyH_take (i := 0) (v := ?_) rfl (by kernel_rfl) (by kernel_rfl) (by kernel_rfl) (fun _ _ _ h => h) (Or.inl ⟨by kernel_rfl, ?_⟩) (by assumption) ?_
            rotate_left
            · (intro w hSw; (try dsimp only at hSw); go_simp)
              try (with_reducible rfl)
            rotate_left
            try simp (maxSteps := 4000000) only [Act.put, List.setIfInBounds_toArray, List.set_cons_zero, List.set_cons_succ, List.getElem_toArray, List.getElem_cons_zero, List.getElem_cons_succ]
            refine wpAnyH_take (i := 1) (v := ?_) rfl (by kernel_rfl) (by kernel_rfl) (by kernel_rfl) (fun _ _ _ h => h) (Or.inl ⟨by kernel_rfl, ?_⟩) (by assumption) ?_
            rotate_left
            · (intro w hSw; (try dsimp only at hSw); go_simp)
              try (with_reducible rfl)
            rotate_left
            try simp (maxSteps := 4000000) only [Act.put, List.setIfInBounds_toArray, List.set_cons_zero, List.set_cons_succ, List.getElem_toArray, List.getElem_cons_zero, List.getElem_cons_succ]
            refine wpAnyH_take (i := 2) (v := ?_) rfl (by kernel_rfl) (by kernel_rfl) (by kernel_rfl) (fun _ _ _ h => h) (Or.inl ⟨by kernel_rfl, ?_⟩) (by assumption) ?_
            rotate_left
            · (intro w hSw; (try dsimp only at hSw); go_simp)
              try (with_reducible rfl)
            rotate_left
            try simp (maxSteps := 4000000) only [Act.put, List.setIfInBounds_toArray, List.set_cons_zero, List.set_cons_succ, List.getElem_toArray, List.getElem_cons_zero, List.getElem_cons_succ]
            refine wpAnyH_take (i := 4) (v := ?_) rfl (by kernel_rfl) (by kernel_rfl) (by kernel_rfl) (fun _ _ _ h => h) (Or.inl ⟨by kernel_rfl, ?_⟩) (by assumption) ?_
            rotate_left
            · (intro w hSw; (try dsimp only at hSw); go_simp)
              try (with_reducible rfl)
            rotate_left
            try simp (maxSteps := 4000000) only [Act.put, List.setIfInBounds_toArray, List.set_cons_zero, List.set_cons_succ, List.getElem_toArray, List.getElem_cons_zero, List.getElem_cons_succ]
            refine wpAnyH_take (i := 5) (v := ?_) rfl (by kernel_rfl) (by kernel_rfl) (by kernel_rfl) (fun _ _ _ h => h) (Or.inl ⟨by kernel_rfl, ?_⟩) (by assumption) ?_
            rotate_left
            · (intro w hSw; (try dsimp only at hSw); go_simp)
              try (with_reducible rfl)
            rotate_left
            try simp (maxSteps := 4000000) only [Act.put, List.setIfInBounds_toArray, List.set_cons_zero, List.set_cons_succ, List.getElem_toArray, List.getElem_cons_zero, List.getElem_cons_succ]
            refine wpAnyH_take (i := 6) (v := ?_) rfl (by kernel_rfl) (by kernel_rfl) (by kernel_rfl) (fun _ _ _ h => h) (Or.inl ⟨by kernel_rfl, ?_⟩) (by assumption) ?_
            rotate_left
            · (intro w hSw; (try dsimp only at hSw); go_simp)
              try (with_reducible rfl)
            rotate_left
            try simp (maxSteps := 4000000) only [Act.put, List.setIfInBounds_toArray, List.set_cons_zero, List.set_cons_succ, List.getElem_toArray, List.getElem_cons_zero, List.getElem_cons_succ]
            refine wpAnyH_take (i := 7) (v := ?_) rfl (by kernel_rfl) (by kernel_rfl) (by kernel_rfl) (fun _ _ _ h => h) (Or.inl ⟨by kernel_rfl, ?_⟩) (by assumption) ?_
            rotate_left
            · (intro w hSw; (try dsimp only at hSw); go_simp)
              try (with_reducible rfl)
            rotate_left
            try simp (maxSteps := 4000000) only [Act.put, List.setIfInBounds_toArray, List.set_cons_zero, List.set_cons_succ, List.getElem_toArray, List.getElem_cons_zero, List.getElem_cons_succ]
            refine wpAnyH_take (i := 8) (v := ?_) rfl (by kernel_rfl) (by kernel_rfl) (by kernel_rfl) (fun _ _ _ h => h) (Or.inl ⟨by kernel_rfl, ?_⟩) (by assumption) ?_
            rotate_left
            · (intro w hSw; (try dsimp only at hSw); go_simp)
              try (with_reducible rfl)
            rotate_left
            try simp (maxSteps := 4000000) only [Act.put, List.setIfInBounds_toArray, List.set_cons_zero, List.set_cons_succ, List.getElem_toArray, List.getElem_cons_zero, List.getElem_cons_succ]
            refine wpAnyH_ready (rs := [3]) (by kernel_rfl) (by simp) ?_
            refine AllReadyH.cons rfl (fun K2 hK2 => ?_) AllReadyH.nil
            go_simp
            with_reducible refine Calls.mono (mclear_no (g : Int) HPd.out.mem HKN.out) ?_
            rintro e w' ⟨rfl, rfl⟩
            refine hK2.out _ _ k1 (fun hHeld2 => ?_)
            clear hK2 K2 hHeld
            have hHeld := hHeld2
            clear hHeld2
            try simp (maxSteps := 4000000) only [Act.put, List.setIfInBounds_toArray, List.set_cons_zero, List.set_cons_succ]
            refine wpAnyH_take (i := 9) (v := ?_) rfl (by kernel_rfl) (by kernel_rfl) (by kernel_rfl) (fun _ _ _ h => h) (Or.inl ⟨by kernel_rfl, ?_⟩) (by assumption) ?_
            rotate_left
            · (intro w hSw; (try dsimp only at hSw); go_simp)
              try (with_reducible rfl)
            rotate_left
            try simp (maxSteps := 4000000) only [Act.put, List.setIfInBounds_toArray, List.set_cons_zero, List.set_cons_succ, List.getElem_toArray, List.getElem_cons_zero, List.getElem_cons_succ]
            refine wpAnyH_done (by kernel_rfl) ?_ _
            generalize wq.drew = wd at *
            have k3 := (HPd.out.rat.2 (2184 + g) (by omega)).1
            have k4 := (HPd.out.rat.2 (2184 + g) (by omega)).2
            rw [RS.ck _ HG8.out] at k3
            have HTH : Hid ((wd.setCell ⟨a0, 2184 + g, none⟩ (.bool false)).there a0 (2312 + g * 6) (#[.int .i64 0, .int .i64 0, .int .i64 0, .int .i64 0, .int .i64 0, .bool false] : Array Value).size) := Lib.hid (rat_thkv HPd.out.rat HG8.out false)
            have HF := Lib.hid ((HPd.out.half.kv HG8.out false zv capZ rfl (fun q hq => capZ_at g q hq) (fun x _ _ => zv_one x)).full HL2.out HPq.out.most)
            generalize r.k g = rk at k3
            clear k1 HPd
            go_wp2_with (refine wpList_store_mid rfl 31 (.tmp 69) (.tmp 65) rfl a0 (2312 + g * 6) #[.int .i64 0, .int .i64 0, .int .i64 0, .int .i64 0, .int .i64 0, .bool false] rfl rfl ?ht61 capInfo capOne ?_; simpa using HTH.out)
            go_wp2_with fail
            go_meet
            exact Lib.hid ⟨0, _, _, cl, rfl, rfl, HF.out⟩
          | true =>
            have K := Lib.hid (mclear_yes g (HPq.out.later (Below.refl _ _).drew).mem hk)
            rw [hk] at k1
            have HL2 := Lib.hid (HPq.out.lk.clear (kp := offK σ.kp g) HG8.out (fun y => rfl))
            have HPd := Lib.hid (HPq.out.later (Below.refl _ _).drew)
            clear hk
            go_upto_region 10 with (fail)
            refine wp_region_held_drew (S := fun w' => w'.cell? ⟨a0, 2184 + g, none⟩ = some (.bool true)) (by kernel_rfl) ?_ (fun hHeld => ?_)
            · exact k1
            refine wpAnyH_take (i := 0) (v := ?_) rfl (by kernel_rfl) (by kernel_rfl) (by kernel_rfl) (fun _ _ _ h => h) (Or.inl ⟨by kernel_rfl, ?_⟩) (by assumption) ?_
            rotate_left
            · (intro w hSw; (try dsimp only at hSw); go_simp)
              try (with_reducible rfl)
            rotate_left
            try simp (maxSteps := 4000000) only [Act.put, List.setIfInBounds_toArray, List.set_cons_zero, List.set_cons_succ, List.getElem_toArray, List.getElem_cons_zero, List.getElem_cons_succ]
            refine wpAnyH_take (i := 1) (v := ?_) rfl (by kernel_rfl) (by kernel_rfl) (by kernel_rfl) (fun _ _ _ h => h) (Or.inl ⟨by kernel_rfl, ?_⟩) (by assumption) ?_
            rotate_left
            · (intro w hSw; (try dsimp only at hSw); go_simp)
              try (with_reducible rfl)
            rotate_left
            try simp (maxSteps := 4000000) only [Act.put, List.setIfInBounds_toArray, List.set_cons_zero, List.set_cons_succ, List.getElem_toArray, List.getElem_cons_zero, List.getElem_cons_succ]
            refine wpAnyH_take (i := 2) (v := ?_) rfl (by kernel_rfl) (by kernel_rfl) (by kernel_rfl) (fun _ _ _ h => h) (Or.inl ⟨by kernel_rfl, ?_⟩) (by assumption) ?_
            rotate_left
            · (intro w hSw; (try dsimp only at hSw); go_simp)
              try (with_reducible rfl)
            rotate_left
            try simp (maxSteps := 4000000) only [Act.put, List.setIfInBounds_toArray, List.set_cons_zero, List.set_cons_succ, List.getElem_toArray, List.getElem_cons_zero, List.getElem_cons_succ]
            refine wpAnyH_take (i := 4) (v := ?_) rfl (by kernel_rfl) (by kernel_rfl) (by kernel_rfl) (fun _ _ _ h => h) (Or.inl ⟨by kernel_rfl, ?_⟩) (by assumption) ?_
            rotate_left
            · (intro w hSw; (try dsimp only at hSw); go_simp)
              try (with_reducible rfl)
            rotate_left
            try simp (maxSteps := 4000000) only [Act.put, List.setIfInBounds_toArray, List.set_cons_zero, List.set_cons_succ, List.getElem_toArray, List.getElem_cons_zero, List.getElem_cons_succ]
            refine wpAnyH_take (i := 5) (v := ?_) rfl (by kernel_rfl) (by kernel_rfl) (by kernel_rfl) (fun _ _ _ h => h) (Or.inl ⟨by kernel_rfl, ?_⟩) (by assumption) ?_
            rotate_left
            · (intro w hSw; (try dsimp only at hSw); go_simp)
              try (with_reducible rfl)
            rotate_left
            try simp (maxSteps := 4000000) only [Act.put, List.setIfInBounds_toArray, List.set_cons_zero, List.set_cons_succ, List.getElem_toArray, List.getElem_cons_zero, List.getElem_cons_succ]
            refine wpAnyH_take (i := 6) (v := ?_) rfl (by kernel_rfl) (by kernel_rfl) (by kernel_rfl) (fun _ _ _ h => h) (Or.inl ⟨by kernel_rfl, ?_⟩) (by assumption) ?_
            rotate_left
            · (intro w hSw; (try dsimp only at hSw); go_simp)
              try (with_reducible rfl)
            rotate_left
            try simp (maxSteps := 4000000) only [Act.put, List.setIfInBounds_toArray, List.set_cons_zero, List.set_cons_succ, List.getElem_toArray, List.getElem_cons_zero, List.getElem_cons_succ]
            refine wpAnyH_take (i := 7) (v := ?_) rfl (by kernel_rfl) (by kernel_rfl) (by kernel_rfl) (fun _ _ _ h => h) (Or.inl ⟨by kernel_rfl, ?_⟩) (by assumption) ?_
            rotate_left
            · (intro w hSw; (try dsimp only at hSw); go_simp)
              try (with_reducible rfl)
            rotate_left
            try simp (maxSteps := 4000000) only [Act.put, List.setIfInBounds_toArray, List.set_cons_zero, List.set_cons_succ, List.getElem_toArray, List.getElem_cons_zero, List.getElem_cons_succ]
            refine wpAnyH_take (i := 8) (v := ?_) rfl (by kernel_rfl) (by kernel_rfl) (by kernel_rfl) (fun _ _ _ h => h) (Or.inl ⟨by kernel_rfl, ?_⟩) (by assumption) ?_
            rotate_left
            · (intro w hSw; (try dsimp only at hSw); go_simp)
              try (with_reducible rfl)
            rotate_left
            try simp (maxSteps := 4000000) only [Act.put, List.setIfInBounds_toArray, List.set_cons_zero, List.set_cons_succ, List.getElem_toArray, List.getElem_cons_zero, List.getElem_cons_succ]
            refine wpAnyH_ready (rs := [3]) (by kernel_rfl) (by simp) ?_
            refine AllReadyH.cons rfl (fun K2 hK2 => ?_) AllReadyH.nil
            go_simp
            with_reducible refine Calls.mono K.out ?_
            rintro e w2 ⟨rfl, hs⟩
            obtain ⟨cl2, hh⟩ := HPd.out.step hs
            have k2 := (hh.rat.2 (2184 + g) (by omega)).1
            have k4 := (hh.rat.2 (2184 + g) (by omega)).2
            rw [RS.ck _ HG8.out, HPq.out.lk.kep g HG8.out] at k2
            have HH := Lib.hid hh
            have k3 : w2.cell? ⟨a0, 2184 + g, none⟩ = some (.bool true) := by
              rw [k2]
              have h1 := HPq.out.rat.2 (2184 + g) (by omega)
              rw [RS.ck _ HG8.out, HPq.out.lk.kep g HG8.out, show wq.cell? ⟨a0, 2184 + g, none⟩ = some (.bool true) from k1] at h1
              exact h1.1.symm
            clear hs hh k2
            refine hK2.out _ _ k3 (fun hHeld2 => ?_)
            clear hK2 K2 hHeld
            have hHeld := hHeld2
            clear hHeld2
            try simp (maxSteps := 4000000) only [Act.put, List.setIfInBounds_toArray, List.set_cons_zero, List.set_cons_succ]
            refine wpAnyH_take (i := 9) (v := ?_) rfl (by kernel_rfl) (by kernel_rfl) (by kernel_rfl) (fun _ _ _ h => h) (Or.inl ⟨by kernel_rfl, ?_⟩) (by assumption) ?_
            rotate_left
            · (intro w hSw; (try dsimp only at hSw); go_simp)
              try (with_reducible rfl)
            rotate_left
            try simp (maxSteps := 4000000) only [Act.put, List.setIfInBounds_toArray, List.set_cons_zero, List.set_cons_succ, List.getElem_toArray, List.getElem_cons_zero, List.getElem_cons_succ]
            refine wpAnyH_done (by kernel_rfl) ?_ _
            have HTH : Hid ((w2.setCell ⟨a0, 2184 + g, none⟩ (.bool false)).there a0 (2312 + g * 6) (#[.int .i64 0, .int .i64 0, .int .i64 0, .int .i64 0, .int .i64 0, .bool false] : Array Value).size) := Lib.hid (rat_thkv HH.out.rat HG8.out false)
            have HF := Lib.hid ((HH.out.kv HG8.out false zv capZ rfl (fun q hq => capZ_at g q hq) (fun x _ _ => zv_one x)).full HL2.out HPq.out.most)
            clear k1 HPd K HH
            go_wp2_with (refine wpList_store_mid rfl 31 (.tmp 69) (.tmp 65) rfl a0 (2312 + g * 6) #[.int .i64 0, .int .i64 0, .int .i64 0, .int .i64 0, .int .i64 0, .bool false] rfl rfl ?ht62 capInfo capOne ?_; simpa using HTH.out)
            go_wp2_with fail
            go_meet
            exact Lib.hid ⟨0, _, _, cl2, rfl, rfl, HF.out⟩
      case rest =>
        as_aux_lemma =>
        obtain ⟨X, σ2, r2, cl2, rfl, rfl, hml⟩ := hcut.out
        have HP2 := Lib.hid hml
        have HRG := Lib.hid hml.rat.range
        have HI1 := Lib.hid (RS.info r2)
        clear hml hcut
        go_wp2_with (refine wpList_load_gd (by rfl) 34 (.tmp 4) rfl a0 0 rfl r2.l _ HRG.out Tryd.underlying34 rfl HI1.out ?_)
        refine (lsame r2 HP2.out.one HP2.out.mem HP2.out.lk).mono ?_
        rintro e w9 ⟨rfl, hb9⟩
        have HP9 := Lib.hid (HP2.out.later hb9)
        clear hb9
        go_wp2_with fail
        go_roundw
        case rel => exact ⟨i + 1, σ2, r2, cl2, by omega, by omega, by go_num, HP9⟩
        case measure => simp [intOf]; omega
    ·
      as_aux_lemma =>
      have hstop : ¬ ((i : Int) < (L : Int)) ∨ ((i : Int) < (L : Int) ∧ ¬ ((i : Int) < 25)) := by omega
      clear hgo
      rcases hstop with h | ⟨h, h'⟩
      all_goals
        go_wp2_with fail
        go_ret
        exact ⟨rfl, HB0.out.trans (HP.out.bel.mono HB0.out.size)⟩
end Go.Proofs.YtgidnmjeifgciaaDoor
