/- The statements of sweep: awake. -/
import Derived.Test.YtljjcomedjdpaaaDoorSwB
import Derived.Test.YtljjcomedjdpaaaDoorMmN
import Derived.Test.YtljjcomedjdpaaaDoorMmU
import Derived.Deep.RegionHeld3
import Derived.Deep.DeepCutAuto
namespace Go.Proofs.YtljjcomedjdpaaaDoor
set_option maxRecDepth 100000
open Go.RowKit Go.ChangeMaps Go.MapKept
set_option linter.unusedVariables false
set_option linter.unusedSimpArgs false

def capA : CapV := ⟨32, 16, 32, 1, 3, true⟩
def fA : Nat → CapV := updC (fun _ => cap0) 0 capA
/-- The state of awake's sweep. -/
def IA (s R g P lo pg B : Nat) (A : Option Addr) (cp : Nat) (c : Int) (ws : List Nat) (V : World) (d n : Nat) (w : World) : Prop :=
  (d = 0 ∧ n = 0 ∧ SWAt s 1 A 0 cp 0 0 w ∧ RegAt R g 1 w (CV fA) ∧ PtIs lo P pg P w c ws ∧ TzTab w ∧ Below B V w) ∨
  (d = 1 ∧ n = 1 ∧ SWAt s 1 A 0 cp 1 1 w ∧ RegAt R g 1 w (CV (updC fA 0 cap0)) ∧ Below B V w)
theorem IA.later {s R g P lo pg B : Nat} {A : Option Addr} {cp : Nat} {c : Int} {ws : List Nat} {V : World} {d n : Nat} {w w' : World} (hB : B ≤ s) (h : IA s R g P lo pg B A cp c ws V d n w) (hb : Below w.heap.size w w') : IA s R g P lo pg B A cp c ws V d n w' := by
  rcases h with ⟨h1, h2, h3, h4, h5, h6, h7⟩ | ⟨h1, h2, h3, h4, h5⟩
  · exact .inl ⟨h1, h2, h3.below hb, h4.below hb, h5.below hb h5.2.1.2 hb.size, h6.later hb, h7.trans (hb.mono (by have := h3.1; omega))⟩
  · exact .inr ⟨h1, h2, h3.below hb, h4.below hb, h5.trans (hb.mono (by have := h3.1; omega))⟩
theorem IA.sw {s R g P lo pg B : Nat} {A : Option Addr} {cp : Nat} {c : Int} {ws : List Nat} {V : World} {d n : Nat} {w : World} (h : IA s R g P lo pg B A cp c ws V d n w) : SWAt s 1 A 0 cp d n w := by
  rcases h with ⟨rfl, rfl, h3, -⟩ | ⟨rfl, rfl, h3, -⟩ <;> exact h3
theorem IA.one {s R g P lo pg B M : Nat} {A : Option Addr} {cp : Nat} {c : Int} {ws : List Nat} {V : World} {d n : Nat} {w : World} (hB : B ≤ s ∧ B ≤ g) (hn : s ≠ R ∧ s ≠ g) (hw : SomeR 16384 (spF 32 16 16) (spN 32 16 16) ws true) (h : IA s R g P lo pg B A cp c ws V d n w) (hd : d < 1) :
    Calls Tryd.prog 39 #[.pointer (some ⟨s, 0, none⟩), .pointer (some ⟨M, 0, none⟩), .pointer (some ⟨R, 0, none⟩), .pointer (some ⟨P, 0, none⟩)] w (fun e w' => SWAt s 1 A 0 cp d n w' ∧ Mid s (IA s R g P lo pg B A cp c ws V) d n e w') := by
  rcases h with ⟨rfl, rfl, h3, h4, h5, h6, h7⟩ | ⟨h1, -⟩
  · refine (sone_reg s 1 A 0 cp 0 0 M R g P lo P pg w fA c ws true h3 h4 h5 h6 (by decide) (fun _ => hw) (fun e => by cases e)).mono ?_
    rintro e w' ⟨rfl, hr, hk⟩
    have hs' := h3.keep hk.1.size (hk.2 s h3.1 hn.2)
    refine ⟨hs', true, rfl, .inr ⟨rfl, rfl, hs'.bump true (by decide), ?_, bump_below _ _ _ (h7.trans (hk.1.mono hB.2)) hB.1⟩⟩
    exact RegAt.keep hr (by rw [bump_size]; exact Nat.le_refl _) (bump_other _ _ _ _ (Ne.symm hn.1)) (bump_other _ _ _ _ (Ne.symm hn.2))
  · omega
theorem listF_none (n : Nat) : listF (fun _ => false) n = [] := by
  induction n with
  | zero => rfl
  | succ n ih => rw [listF, if_neg (by decide)]; exact ih
set_option maxHeartbeats 6400000 in
theorem w36awake (W : World) (ht : TzTab W) : Calls Tryd.prog 5 #[] W fun e w' => e = .returned (.bool true) ∧ Below W.heap.size W w' := by
  have T := Lib.hid ht
  obtain ⟨ws1, hws1⟩ : ∃ ws1, putN (List.replicate 256 0) 2 1 = (ws1, 1) := ⟨_, Prod.ext rfl (put_zero_count 2 1 (by decide))⟩
  have HWS := Lib.hid hws1
  have HSM : Hid (SomeR 16384 (spF 32 16 16) (spN 32 16 16) ws1 true) := Lib.hid (some_true 2 (by decide) (by decide) (by decide) (by decide) (by decide) (by have := put_zero_bits 2 1 2 (by decide); rw [hws1] at this; exact this))
  clear ht hws1
  go_enter Tryd.func5, Tryd.ntmps5
  go_wp2_with fail
  refine (mnew 1 1 _ T.out (by decide)).mono ?_
  rintro e v1 ⟨M, col, rfl, hm, hb1⟩
  have HM := Lib.hid hm
  have HB1 := Lib.hid hb1
  clear hm hb1
  go_wp2_with fail
  refine (rnew 1 1 (by decide) v1).mono ?_
  rintro e v2 ⟨R, g, rfl, hr, hb2, hr0, hg0⟩
  have HR : Hid (RegAt R g 1 v2 (CV (fun _ => cap0))) := Lib.hid hr
  have HRG := Lib.hid (And.intro hr0 hg0)
  have HM2 := Lib.hid (HM.out.later hb2)
  have HB2 := Lib.hid (thn HB1.out hb2)
  have HC2 : Hid (col R = 0 ∧ col g = 0) := Lib.hid ⟨HM.out.old hr0, HM.out.old hg0⟩
  have HLOW : Hid (∀ i, v1.heap.size ≤ i → col i = 0) := Lib.hid (fun i hi => HM.out.old hi)
  have HV12 := Lib.hid hb2.size
  clear hr hb2 hr0 hg0 HM
  go_wp2_with fail
  refine (ptnew_any v2).mono ?_
  rintro e v3 ⟨pg, P, rfl, hp, hb3⟩
  have HP := Lib.hid hp
  have HR3 := Lib.hid (HR.out.below hb3)
  have HM3 := Lib.hid (HM2.out.later hb3)
  have HB3 := Lib.hid (thn HB2.out hb3)
  have HLT : Hid (R < v2.heap.size ∧ g < v2.heap.size ∧ v2.heap.size ≤ v3.heap.size) := Lib.hid ⟨HR.out.1, HR.out.2.1, hb3.size⟩
  clear hp hb3 HR HM2
  go_wp2_with fail
  refine (cput R g 1 0 capA v3 _ HR3.out (by decide) (by decide)).mono ?_
  rintro e v4 ⟨rfl, hr4, hk4⟩
  have HR4 : Hid (RegAt R g 1 v4 (CV fA)) := Lib.hid hr4
  have HM4 := Lib.hid (HM3.out.keep (hk4.1.mono (by have h1 := HB1.out.size; have h2 := HRG.out.2; omega)) (fun i hi hc => hk4.2 i hi (fun e => by rw [e] at hc; exact hc HC2.out.2)))
  have HP4 := Lib.hid (HP.out.keep hk4.1.size (fun i i1 i2 => hk4.2 i (by have := HP.out.2.1.2; omega) (by have := HLT.out.2.1; omega)))
  have HB4 := Lib.hid (HB3.out.trans (hk4.1.mono (by have h1 := HB1.out.size; have h2 := HRG.out.2; omega)))
  clear hr4 hk4 HR3 HM3 HP
  go_wp2_with fail
  refine (ptput 40 1 1 1 ws1 HP4.out HWS.out (by decide) (by decide)).mono ?_
  rintro e v5 ⟨rfl, hp5, hl5, hh5, hs5⟩
  have HP5 := Lib.hid hp5
  have HR5 : Hid (RegAt R g 1 v5 (CV fA)) := Lib.hid (HR4.out.keep hs5 (hl5.block R (by have := HLT.out; omega)) (hl5.block g (by have := HLT.out; omega)))
  have HM5 := Lib.hid (HM4.out.keep (hl5.mono (by have h1 := HB1.out.size; have h2 := HLT.out; have h3 := HV12.out; omega)) (fun i hi hc => hl5.block i (by
    by_cases e : i < v1.heap.size
    · have h3 := HV12.out; omega
    · exact absurd (HLOW.out i (by omega)) hc)))
  have HB5 := Lib.hid (HB4.out.trans (hl5.mono (by have h1 := HB1.out.size; have h3 := HV12.out; omega)))
  clear hp5 hl5 hh5 hs5 HP4 HR4 HM4 HB4
  go_wp2_with fail
  refine (swnew HM5.out (fun y _ => rfl) HR5.out).mono ?_
  rw [show (newS 1).pg = fun _ => false from rfl, listF_none]
  rintro e v6 ⟨s, A, cp, rfl, hsw, -, hs0, hb6⟩
  have HI : Hid (IA s R g P v2.heap.size pg W.heap.size A cp 1 ws1 W 0 0 v6) := Lib.hid (.inl ⟨rfl, rfl, hsw, HR5.out.below hb6, HP5.out.below hb6 HP5.out.2.1.2 hb6.size, (T.out.later HB5.out).later hb6, thn HB5.out hb6⟩)
  have HN : Hid ((W.heap.size ≤ s ∧ W.heap.size ≤ g) ∧ (s ≠ R ∧ s ≠ g)) := Lib.hid (by
    have h1 := HB1.out.size; have h2 := HRG.out; have h3 := HR5.out.1; have h4 := HR5.out.2.1; have h5 := HB5.out.size
    omega)
  clear hsw hs0 hb6 HM5 HP5 HR5 HB5
  go_wp2_with fail
  refine (sstep s 1 A 0 cp M R P 1 0 1 0 5 v6 (IA s R g P v2.heap.size pg W.heap.size A cp 1 ws1 W) (fun d n w h => h.sw) rfl (fun d n w w' h hb => h.later HN.out.1.1 hb) (fun d n w h hd => h.one HN.out.1 HN.out.2 HSM.out hd) HI.out (by decide) (by decide) (by decide)).mono ?_
  rintro e v7 ⟨rfl, n', h⟩
  rcases h with ⟨h, -⟩ | ⟨-, rfl, h3, h4, h5⟩
  · exact absurd h (by decide)
  have HS7 := Lib.hid h3
  have HR7 := Lib.hid h4
  have HB7 := Lib.hid h5
  clear h3 h4 h5 HI
  go_wp2_with fail
  refine (swork 1 HS7.out rfl).mono ?_
  rintro e v8 ⟨rfl, hb8⟩
  have HS8 := Lib.hid (HS7.out.below hb8)
  have HR8 := Lib.hid (HR7.out.below hb8)
  have HB8 := Lib.hid (thn HB7.out hb8)
  clear hb8
  go_wp2_with fail
  refine (sover 1 true HS8.out rfl (by decide)).mono ?_
  rintro e v9 ⟨rfl, hb9⟩
  have HS9 := Lib.hid (HS8.out.below hb9)
  have HR9 := Lib.hid (HR8.out.below hb9)
  have HB9 := Lib.hid (thn HB8.out hb9)
  clear hb9
  go_wp2_with fail
  refine (sgone HS9.out).mono ?_
  rintro e v10 ⟨rfl, rfl⟩
  go_wp2_with fail
  refine (ccount R g 1 _ _ HR9.out).mono ?_
  rw [show cntC (updC fA 0 cap0) 1 = 0 by decide]
  rintro e v11 ⟨rfl, hb11⟩
  have HB11 := Lib.hid (thn HB9.out hb11)
  clear hb11
  go_wp2_with fail
  go_ret
  exact ⟨rfl, HB11.out⟩
end Go.Proofs.YtljjcomedjdpaaaDoor

