/- MmC, MmD. -/
import Derived.Test.YtnfcpohbdkionaaGreatDoorZ18
namespace Go.Proofs.YtnfcpohbdkionaaGreatDoor
set_option maxRecDepth 100000
open Go.RowKit Go.ChangeMaps Go.MapKept
set_option linter.unusedVariables false
set_option linter.unusedSimpArgs false
theorem pages_any (b l : Int) (w : World) :
    Calls Tryz.prog 105 #[.agg #[.int .i64 b, .int .i64 l]] w fun e w' => e = .returned (.tuple #[.int .i64 (spF b l 256), .int .i64 (spN b l 256)]) ∧ Below w.heap.size w w' := by
  go_enter Tryz.func105, Tryz.ntmps105
  go_wp2_with (go_at_call 83; refine (sparts_any _ _ _ _ (by omega) (by omega)).mono ?_; rintro e w1 ⟨rfl, hb⟩)
  go_ret2
  exact ⟨rfl, ((Below.refl _ _).alloc (Nat.le_refl _) _).trans (hb.mono (by simp))⟩
theorem spPg {b l : Int} (h : mayB b l = true) : spF b l 256 = b / 256 ∧ spN b l 256 = (b + l - 1) / 256 - b / 256 + 1 := by
  obtain ⟨h1, h2, h3, h4⟩ := mayB_iff.1 h
  rw [spF, spN, if_pos h, if_pos h, downI, if_neg (by omega), partsI, if_neg (by omega)]
  omega
theorem sp_no {b l s : Int} (h : mayB b l = false) : spF b l s = 0 ∧ spN b l s = 0 := by
  rw [spF, spN, if_neg (by rw [h]; decide), if_neg (by rw [h]; decide)]
  exact ⟨rfl, rfl⟩
/-- Are all pages that a stretch touches mapped? -/
def openB (pg : Nat → Bool) (b l : Int) : Bool := mayB b l && wholeF pg (b / 256).toNat ((b + l - 1) / 256 - b / 256 + 1).toNat
/-- What a stretch is refused for. -/
def refE (pg : Nat → Bool) (b l : Int) : Int := if mayB b l then (if openB pg b l then 0 else 5) else 1
section
variable {B : Nat} {col : Nat → Nat} {M : Nat} {W : World} {σ : MS}
theorem MEM.old (h : MEM B col M W σ) {i : Nat} (hi : W.heap.size ≤ i) : col i = 0 := by
  by_cases e : col i = 0
  · exact e
  · have := h.own i e; omega
theorem mwhole (r : Bool) (f n : Int) (h : MEM B col M W σ) (hr : (decide (1 ≤ n ∧ 0 ≤ f ∧ f ≤ 1024 - n) && wholeF σ.pg f.toNat n.toNat) = r) :
    Calls Tryz.prog 104 #[.pointer (some ⟨M, 0, none⟩), .int .i64 f, .int .i64 n] W fun e w' => e = .returned (.bool r) ∧ W = w' := by
  obtain ⟨P, sg, t, S, kb, ⟨k0, -, -, -, -⟩, ⟨lo, hi, g, ws, hp, -, hb, -⟩, -⟩ := h.ex
  have HP := Lib.hid hp
  have HR : Hid ((decide (1 ≤ n ∧ 0 ≤ f ∧ f ≤ 1024 - n) && wholeB ws f.toNat n.toNat) = r) := Lib.hid (by rw [wholeB_F, show bitB ws = σ.pg from funext hb]; exact hr)
  clear h hp hb hr
  go_enter Tryz.func104, Tryz.ntmps104
  go_wp2_with fail
  refine (pwhole r f n HP.out HR.out).mono ?_
  rintro e w' ⟨rfl, rfl⟩
  go_wp2
  go_ret
  exact ⟨rfl, rfl⟩
theorem mopen (r : Bool) (b l : Int) (h : MEM B col M W σ) (hr : openB σ.pg b l = r) :
    Calls Tryz.prog 82 #[.pointer (some ⟨M, 0, none⟩), .agg #[.int .i64 b, .int .i64 l]] W fun e w' => e = .returned (.bool r) ∧ Below W.heap.size W w' := by
  have H := Lib.hid h
  have HR : Hid ((decide (1 ≤ spN b l 256 ∧ 0 ≤ spF b l 256 ∧ spF b l 256 ≤ 1024 - spN b l 256) && wholeF σ.pg (spF b l 256).toNat (spN b l 256).toNat) = r) := Lib.hid (by
    rw [← hr, openB]
    cases hm : mayB b l with
    | false => rw [(sp_no hm).1, (sp_no hm).2]; rfl
    | true =>
      obtain ⟨h1, h2, h3, h4⟩ := mayB_iff.1 hm
      rw [(spPg hm).1, (spPg hm).2, decide_eq_true (by omega)])
  clear h hr
  go_enter Tryz.func82, Tryz.ntmps82
  go_wp2_with fail
  refine (pages_any b l _).mono ?_
  rintro e w1 ⟨rfl, hb⟩
  have HB : Hid (Below W.heap.size W w1) := Lib.hid (thn (alc0 W _) hb)
  clear hb
  generalize spF b l 256 = F at *
  generalize spN b l 256 = N at *
  go_wp2_with fail
  refine (mwhole r F N (H.out.later HB.out) HR.out).mono ?_
  rintro e w' ⟨rfl, rfl⟩
  go_wp2
  go_ret
  exact ⟨rfl, HB.out⟩
theorem mrefused (r : Int) (b l : Int) (h : MEM B col M W σ) (hr : refE σ.pg b l = r) :
    Calls Tryz.prog 49 #[.pointer (some ⟨M, 0, none⟩), .agg #[.int .i64 b, .int .i64 l]] W fun e w' => e = .returned (.int .i64 r) ∧ Below W.heap.size W w' := by
  have H := Lib.hid h
  unfold refE at hr
  clear h
  cases hm : mayB b l with
  | false =>
    rw [hm] at hr
    obtain rfl : 1 = r := hr
    have HM := Lib.hid hm
    clear hm
    go_enter Tryz.func49, Tryz.ntmps49
    go_wp2_with fail
    refine (may_is false _ _ _ HM.out).mono ?_
    rintro e w1 ⟨rfl, hb⟩
    have HB : Hid (Below W.heap.size W w1) := Lib.hid (thn (alc0 W _) hb)
    clear hb
    go_wp2
    go_ret
    exact ⟨rfl, HB.out⟩
  | true =>
    rw [hm] at hr
    cases ho : openB σ.pg b l with
    | false =>
      rw [ho] at hr
      obtain rfl : 5 = r := hr
      have HM := Lib.hid hm
      have HO := Lib.hid ho
      clear hm ho
      go_enter Tryz.func49, Tryz.ntmps49
      go_wp2_with fail
      refine (may_is true _ _ _ HM.out).mono ?_
      rintro e w1 ⟨rfl, hb⟩
      have HB : Hid (Below W.heap.size W w1) := Lib.hid (thn (alc0 W _) hb)
      obtain ⟨hc, hf⟩ := bcell hb
      clear hb
      go_wp2_with fail
      refine (mopen false b l (H.out.later HB.out) HO.out).mono ?_
      rintro e w2 ⟨rfl, hb⟩
      have HB2 : Hid (Below W.heap.size W w2) := Lib.hid (thn HB.out hb)
      clear hb hc hf
      go_wp2
      go_ret
      exact ⟨rfl, HB2.out⟩
    | true =>
      rw [ho] at hr
      obtain rfl : 0 = r := hr
      have HM := Lib.hid hm
      have HO := Lib.hid ho
      clear hm ho
      go_enter Tryz.func49, Tryz.ntmps49
      go_wp2_with fail
      refine (may_is true _ _ _ HM.out).mono ?_
      rintro e w1 ⟨rfl, hb⟩
      have HB : Hid (Below W.heap.size W w1) := Lib.hid (thn (alc0 W _) hb)
      obtain ⟨hc, hf⟩ := bcell hb
      clear hb
      go_wp2_with fail
      refine (mopen true b l (H.out.later HB.out) HO.out).mono ?_
      rintro e w2 ⟨rfl, hb⟩
      have HB2 : Hid (Below W.heap.size W w2) := Lib.hid (thn HB.out hb)
      clear hb hc hf
      go_wp2
      go_ret
      exact ⟨rfl, HB2.out⟩
theorem openB_may {pg : Nat → Bool} {b l : Int} (h : openB pg b l = true) : mayB b l = true := by
  unfold openB at h
  rw [Bool.and_eq_true] at h
  exact h.1
theorem refE_ok {pg : Nat → Bool} {b l : Int} : refE pg b l = 0 ↔ openB pg b l = true := by
  unfold refE
  constructor
  · intro h
    split at h
    · split at h
      · assumption
      · omega
    · omega
  · intro h
    rw [if_pos (openB_may h), if_pos h]
/-- A byte's tag. -/
def tagI (σ : MS) (at_ : Int) : Int := if openB σ.pg at_ 1 then (σ.f (at_ / 16).toNat : Int) else -1
theorem mtag (r : Int) (x : Int) (h : MEM B col M W σ) (hr : tagI σ x = r) :
    Calls Tryz.prog 65 #[.pointer (some ⟨M, 0, none⟩), .int .i64 x] W fun e w' => e = .returned (.int .i64 r) ∧ Below W.heap.size W w' := by
  have H := Lib.hid h
  unfold tagI at hr
  cases ho : openB σ.pg x 1 with
  | false =>
    rw [ho] at hr
    obtain rfl : -1 = r := hr
    have HO := Lib.hid ho
    clear h ho
    go_enter Tryz.func65, Tryz.ntmps65
    go_wp2_with fail
    refine (mopen false x 1 (H.out.later (alc0 _ _)) HO.out).mono ?_
    rintro e w1 ⟨rfl, hb⟩
    have HB : Hid (Below W.heap.size W w1) := Lib.hid (thn (alc0 W _) hb)
    clear hb
    go_wp2
    go_ret
    exact ⟨rfl, HB.out⟩
  | true =>
    rw [ho] at hr
    have hm := openB_may ho
    obtain ⟨h1, h2, h3, h4⟩ := mayB_iff.1 hm
    have HG : Hid (spF x 1 16 = x / 16) := Lib.hid (spG hm).1
    obtain ⟨g, hg⟩ : ∃ g : Nat, x / 16 = g := ⟨(x / 16).toNat, by omega⟩
    obtain rfl : (σ.f g : Int) = r := by rw [← hr, hg]; rfl
    have HO := Lib.hid ho
    have HG2 := Lib.hid hg
    clear h ho hm hg
    go_enter Tryz.func65, Tryz.ntmps65
    go_wp2_with fail
    refine (mopen true x 1 (H.out.later (alc0 _ _)) HO.out).mono ?_
    rintro e w1 ⟨rfl, hb⟩
    have HB : Hid (Below W.heap.size W w1) := Lib.hid (thn (alc0 W _) hb)
    obtain ⟨hc, hf⟩ := bcell hb
    clear hb
    go_wp2_with fail
    refine (granules_any x 1 _).mono ?_
    rintro e w2 ⟨rfl, hb⟩
    have HB2 : Hid (Below W.heap.size W w2) := Lib.hid (thn HB.out hb)
    clear hb hc hf
    obtain ⟨P, sg, t, S, kb, ⟨-, -, k2, -, -⟩, -, -, ⟨ht, -⟩, -⟩ := (H.out.later HB2.out).ex
    have HT := Lib.hid ht
    clear ht
    rw [HG.out, HG2.out]
    go_wp2_with fail
    refine (tget_in t g (g / 2) σ.f _ HT.out (by have := HG2.out; omega) (by omega)).mono ?_
    rintro e w3 ⟨rfl, q, rfl⟩
    go_wp2
    go_ret
    exact ⟨rfl, below_drewN HB2.out q⟩
end
end Go.Proofs.YtnfcpohbdkionaaGreatDoor
namespace Go.Proofs.YtnfcpohbdkionaaGreatDoor
set_option maxRecDepth 100000
open Go.RowKit Go.ChangeMaps Go.MapKept
set_option linter.unusedVariables false
set_option linter.unusedSimpArgs false
section
variable {B : Nat} {col : Nat → Nat} {M : Nat} {W : World} {σ : MS}
theorem MStep.same {w' : World} {σ' : MS} (h : MStep B col M W σ w') (e : σ = σ') : MStep B col M W σ' w' := e ▸ h
/-- Granules of a stretch: the first, and how many. -/
def grF (b : Int) : Nat := (b / 16).toNat
def grN (b l : Int) : Nat := ((b + l - 1) / 16 - b / 16 + 1).toNat
theorem gr_in {b l : Int} (hm : mayB b l = true) : spF b l 16 = (grF b : Nat) ∧ spN b l 16 = (grN b l : Nat) ∧ grF b + grN b l ≤ 16384 ∧ 1 ≤ grN b l ∧ grF b < 16384 := by
  obtain ⟨h1, h2, h3, h4⟩ := mayB_iff.1 hm
  rw [(spG hm).1, (spG hm).2]
  unfold grF grN
  omega
set_option maxHeartbeats 1600000 in
theorem msettag_ok (b l : Int) (tag : Nat) (h : MEM B col M W σ) (ht : tag < 16) (ho : openB σ.pg b l = true) :
    Calls Tryz.prog 23 #[.pointer (some ⟨M, 0, none⟩), .agg #[.int .i64 b, .int .i64 l], .int .i64 (tag : Int)] W fun e w' => e = .returned (.int .i64 0) ∧ MStep B col M W { σ with f := setF σ.f (grF b) (grN b l) tag } w' := by
  have H := Lib.hid h
  have hm := openB_may ho
  have HG := Lib.hid (gr_in hm)
  have HR : Hid (refE σ.pg b l = 0) := Lib.hid (refE_ok.2 ho)
  have t1 : ¬ (tag : Int) < 0 := by omega
  have t2 : ¬ 15 < (tag : Int) := by omega
  have HT := Lib.hid ht
  clear h hm ho ht
  go_enter Tryz.func23, Tryz.ntmps23
  go_wp2_with fail
  refine (mrefused 0 b l (H.out.later (alc0 _ _)) HR.out).mono ?_
  rintro e w1 ⟨rfl, hb⟩
  have HB : Hid (Below W.heap.size W w1) := Lib.hid (thn (alc0 W _) hb)
  obtain ⟨hc, hf⟩ := bcell hb
  clear hb
  go_wp2_with fail
  refine (granules_any b l _).mono ?_
  rintro e w2 ⟨rfl, hb⟩
  have HB2 : Hid (Below W.heap.size W w2) := Lib.hid (thn HB.out hb)
  clear hb hc hf
  have HM2 := Lib.hid (H.out.later HB2.out)
  obtain ⟨P, sg, t, S, kb, hn⟩ := HM2.out.ex
  have HN := Lib.hid hn
  obtain ⟨⟨-, -, k2, -, -⟩, -, -, -, -⟩ := hn
  rw [HG.out.1, HG.out.2.1]
  go_wp2_with fail
  refine (tset_yes t (grF b) (grN b l) tag σ.f _ HN.out.2.2.2.1.1 HG.out.2.2.1 HG.out.2.2.2.1 HT.out).mono ?_
  rintro e w3 ⟨rfl, q1, q2, q3, q4⟩
  have HQ := Lib.hid (And.intro q1 (And.intro q2 (And.intro q3 q4)))
  clear q1 q2 q3 q4
  go_wp2
  go_ret
  exact ⟨rfl, MStep.before H.out.size HB2.out (HM2.out.set_tg HN.out (HQ.out.2.1.mono (HM2.out.own t (by rw [HN.out.2.2.2.1.2]; decide)).1) (fun i hi hc => by
    rcases Nat.lt_trichotomy i t with a | a | a
    · exact HQ.out.2.1.block i a
    · exact absurd (by rw [a]; exact HN.out.2.2.2.1.2) hc
    · exact HQ.out.2.2.2 i a) ⟨HQ.out.1, HN.out.2.2.2.1.2⟩)⟩
theorem mtagged (r : Bool) (b l tag : Int) (h : MEM B col M W σ) (hr : (openB σ.pg b l && allR σ.f (grF b) tag (grN b l)) = r) :
    Calls Tryz.prog 76 #[.pointer (some ⟨M, 0, none⟩), .agg #[.int .i64 b, .int .i64 l], .int .i64 tag] W fun e w' => e = .returned (.bool r) ∧ Below W.heap.size W w' := by
  have H := Lib.hid h
  cases ho : openB σ.pg b l with
  | false =>
    rw [ho] at hr
    obtain rfl : false = r := hr
    have HO := Lib.hid ho
    clear h ho
    go_enter Tryz.func76, Tryz.ntmps76
    go_wp2_with fail
    refine (mopen false b l (H.out.later (alc0 _ _)) HO.out).mono ?_
    rintro e w1 ⟨rfl, hb⟩
    have HB : Hid (Below W.heap.size W w1) := Lib.hid (thn (alc0 W _) hb)
    clear hb
    go_wp2
    go_ret
    exact ⟨rfl, HB.out⟩
  | true =>
    rw [ho, Bool.true_and] at hr
    have HR := Lib.hid hr
    have HG := Lib.hid (gr_in (openB_may ho))
    have HO := Lib.hid ho
    clear h ho
    go_enter Tryz.func76, Tryz.ntmps76
    go_wp2_with fail
    refine (mopen true b l (H.out.later (alc0 _ _)) HO.out).mono ?_
    rintro e w1 ⟨rfl, hb⟩
    have HB : Hid (Below W.heap.size W w1) := Lib.hid (thn (alc0 W _) hb)
    obtain ⟨hc, hf⟩ := bcell hb
    clear hb
    go_wp2_with fail
    refine (granules_any b l _).mono ?_
    rintro e w2 ⟨rfl, hb⟩
    have HB2 : Hid (Below W.heap.size W w2) := Lib.hid (thn HB.out hb)
    clear hb hc hf
    obtain ⟨P, sg, t, S, kb, ⟨-, -, k2, -, -⟩, -, -, ⟨ht, -⟩, -⟩ := (H.out.later HB2.out).ex
    have HT := Lib.hid ht
    clear ht
    rw [HG.out.1, HG.out.2.1]
    go_wp2_with fail
    refine (tall_in t (grF b) (grN b l) tag σ.f _ HT.out HG.out.2.2.1 HG.out.2.2.2.1).mono ?_
    rintro e w3 ⟨rfl, q, rfl⟩
    rw [HR.out]
    go_wp2
    go_ret
    exact ⟨rfl, below_drewN HB2.out q⟩
/-- Pages that are mapped beside those. -/
def onF (pg : Nat → Bool) (f n : Int) : Nat → Bool := fun y => pg y || decide (f ≤ y ∧ (y : Int) < f + n)
def MMapPost (B : Nat) (col : Nat → Nat) (M : Nat) (W : World) (σ : MS) (f n : Int) (e : Ending) (w' : World) : Prop :=
  (σ.most - (cntF σ.pg 1024 : Nat) < n ∧ e = .returned (.int .i64 6) ∧ MStep B col M W σ w') ∨
  (n ≤ σ.most - (cntF σ.pg 1024 : Nat) ∧ e = .returned (.int .i64 0) ∧ MStep B col M W { σ with pg := onF σ.pg f n, peak := max σ.peak ((cntF σ.pg 1024 : Nat) + n) } w' ∧ (cntF (onF σ.pg f n) 1024 : Nat) = (cntF σ.pg 1024 : Nat) + n)
theorem mmap_free (f n : Int) (h : MEM B col M W σ) (hn : thereI f n) (hy : ∀ y : Nat, f ≤ y → (y : Int) < f + n → σ.pg y = false) :
    Calls Tryz.prog 22 #[.pointer (some ⟨M, 0, none⟩), .int .i64 f, .int .i64 n] W (MMapPost B col M W σ f n) := by
  have H := Lib.hid h
  obtain ⟨P, sg, t, S, kb, hall⟩ := h.ex
  have HA := Lib.hid hall
  obtain ⟨⟨k0, -, -, -, -⟩, ⟨lo, hi, g, ws, hp, hl, hb, hc⟩, -⟩ := hall
  have HP := Lib.hid hp
  have HN := Lib.hid hn
  have HY : Hid (∀ y : Nat, f ≤ y → (y : Int) < f + n → bitB ws y = false) := Lib.hid (fun y a b => by rw [hb]; exact hy y a b)
  have hn2 : 0 ≤ f ∧ f < 1024 ∧ 1 ≤ n ∧ n ≤ 1024 - f := hn
  have hbits : ∀ y, bitB (putN ws f.toNat n.toNat).1 y = onF σ.pg f n y := fun y => by
    rw [putN_bits _ _ _ _ (by omega), hb, onF]
    congr 1
    rw [decide_eq_decide]
    omega
  have hcnt : (cntF (onF σ.pg f n) 1024 : Int) = (cntF σ.pg 1024 : Nat) + n := by
    have h1 := putN_cnt ws f.toNat n.toNat 1024 (by omega) (by omega)
    rw [putN_count ws _ _ (by omega) (fun y a b => by rw [hb]; exact hy y (by omega) (by omega)), cntB_F, cntB_F, show bitB (putN ws f.toNat n.toNat).1 = onF σ.pg f n from funext hbits, show bitB ws = σ.pg from funext hb] at h1
    omega
  have HBI := Lib.hid hbits
  have HCN := Lib.hid hcnt
  have HC := Lib.hid hc
  have HL := Lib.hid hl
  have HT := Lib.hid h.tz
  clear h hp hb hn hy hn2 hc hbits hcnt hl
  go_enter Tryz.func22, Tryz.ntmps22
  go_wp2_with fail
  refine (pmap_free f n HP.out HN.out HY.out HT.out).mono ?_
  rintro e w1 (⟨hm, rfl, q, rfl⟩ | ⟨hm, rfl, hp2, ho⟩)
  · go_wp2
    go_ret
    exact .inl ⟨hm, rfl, MStep.of_later H.out (below_drewN (Below.refl _ _) q)⟩
  · have HM := Lib.hid hm
    have HP2 := Lib.hid hp2
    have HO := Lib.hid ho
    clear hm hp2 ho
    go_wp2
    go_ret
    refine .inr ⟨HM.out, rfl, H.out.set_pg HA.out (HO.out.1.mono (H.out.own lo (by rw [HC.out lo (Nat.le_refl _) (by have := HP.out.1.1; have := HP.out.2.1; omega)]; decide)).1) (fun i hi hc => ?_) ⟨lo, hi, g, _, by rw [HCN.out]; exact HP2.out, by rw [putN_len]; exact HL.out, HBI.out, HC.out⟩, HCN.out⟩
    by_cases hlo : lo ≤ i
    · by_cases hip : i ≤ P
      · exact absurd (HC.out i hlo hip) hc
      · exact HO.out.2.2 i (by omega)
    · exact HO.out.1.block i (by omega)
end
end Go.Proofs.YtnfcpohbdkionaaGreatDoor
