/- Memory: tags are set, and asked for; bytes are read; pages are mapped. -/
import Derived.Test.YtljjcomedjdpaaaDoorMmC
namespace Go.Proofs.YtljjcomedjdpaaaDoor
set_option maxRecDepth 100000
open Go.RowKit Go.ChangeMaps Go.MapKept
set_option linter.unusedVariables false
set_option linter.unusedSimpArgs false

section
variable {B : Nat} {col : Nat → Nat} {M : Nat} {W : World} {σ : MS}
theorem MStep.same {w' : World} {σ' : MS} (h : MStep B col M W σ w') (e : σ = σ') : MStep B col M W σ' w' := e ▸ h
/-- Granules of a stretch: the first, and how many. -/
def grF (b : Int) : Nat := (b / 16).toNat
def grN (b l : Int) : Nat := ((b + l - 1) / 16 - b / 16 + 1).toNat
theorem gr_in {b l : Int} (hm : mayB b l = true) : spF b l 16 = (grF b : Nat) ∧ spN b l 16 = (grN b l : Nat) ∧ grF b + grN b l ≤ 16384 ∧ 1 ≤ grN b l ∧ grF b < 16384 := by
  obtain ⟨h1, h2, h3, h4⟩ := mayB_iff.1 hm
  rw [(spG hm).1, (spG hm).2]
  unfold grF grN
  omega
theorem mmap_in (f n : Int) (h : MEM B col M W σ) (hn : ¬ thereI f n) :
    Calls Tryd.prog 24 #[.pointer (some ⟨M, 0, none⟩), .int .i64 f, .int .i64 n] W fun e w' => e = .returned (.int .i64 1) ∧ W = w' := by
  obtain ⟨P, sg, t, S, kb, ⟨k0, -, -, -, -⟩, ⟨lo, hi, g, ws, hp, -, hb, -⟩, -⟩ := h.ex
  have HP := Lib.hid hp
  have HN := Lib.hid hn
  clear h hp hb hn
  go_enter Tryd.func24, Tryd.ntmps24
  go_wp2_with fail
  refine (pmap_in f n HP.out HN.out).mono ?_
  rintro e w' ⟨rfl, rfl⟩
  go_wp2
  go_ret
  exact ⟨rfl, rfl⟩
theorem mmap_mapped (f n : Int) (h : MEM B col M W σ) (hn : thereI f n) (hy : ∃ y : Nat, f ≤ y ∧ (y : Int) < f + n ∧ σ.pg y = true) :
    Calls Tryd.prog 24 #[.pointer (some ⟨M, 0, none⟩), .int .i64 f, .int .i64 n] W fun e w' => e = .returned (.int .i64 5) ∧ W = w' := by
  obtain ⟨P, sg, t, S, kb, ⟨k0, -, -, -, -⟩, ⟨lo, hi, g, ws, hp, -, hb, -⟩, -⟩ := h.ex
  have HP := Lib.hid hp
  have HN := Lib.hid hn
  have HY : Hid (∃ y : Nat, f ≤ y ∧ (y : Int) < f + n ∧ bitB ws y = true) := Lib.hid (by
    obtain ⟨y, a, b, c⟩ := hy
    exact ⟨y, a, b, by rw [hb]; exact c⟩)
  have HT := Lib.hid h.tz
  clear h hp hb hn hy
  go_enter Tryd.func24, Tryd.ntmps24
  go_wp2_with fail
  refine (pmap_mapped f n HP.out HN.out HY.out HT.out).mono ?_
  rintro e w' ⟨rfl, rfl⟩
  go_wp2
  go_ret
  exact ⟨rfl, rfl⟩
/-- Pages that are mapped beside those. -/
def onF (pg : Nat → Bool) (f n : Int) : Nat → Bool := fun y => pg y || decide (f ≤ y ∧ (y : Int) < f + n)
theorem pg_high {ws : List Nat} {pg : Nat → Bool} (hl : ws.length = 16) (hb : ∀ y, bitB ws y = pg y) (y : Nat) (hy : 1024 ≤ y) : pg y = false := by
  rw [← hb y]
  unfold bitB
  rw [List.getD_eq_getElem?_getD, List.getElem?_eq_none (by omega)]
  exact Nat.zero_testBit _
def MMapPost (B : Nat) (col : Nat → Nat) (M : Nat) (W : World) (σ : MS) (f n : Int) (e : Ending) (w' : World) : Prop :=
  (σ.most - (cntF σ.pg 1024 : Nat) < n ∧ e = .returned (.int .i64 6) ∧ MStep B col M W σ w') ∨
  (n ≤ σ.most - (cntF σ.pg 1024 : Nat) ∧ e = .returned (.int .i64 0) ∧ MStep B col M W { σ with pg := onF σ.pg f n, peak := max σ.peak ((cntF σ.pg 1024 : Nat) + n) } w' ∧ (cntF (onF σ.pg f n) 1024 : Nat) = (cntF σ.pg 1024 : Nat) + n)
theorem mmap_free (f n : Int) (h : MEM B col M W σ) (hn : thereI f n) (hy : ∀ y : Nat, f ≤ y → (y : Int) < f + n → σ.pg y = false) :
    Calls Tryd.prog 24 #[.pointer (some ⟨M, 0, none⟩), .int .i64 f, .int .i64 n] W (MMapPost B col M W σ f n) := by
  have H := Lib.hid h
  obtain ⟨P, sg, t, S, kb, hall⟩ := h.ex
  have HA := Lib.hid hall
  obtain ⟨⟨k0, -, -, -, -⟩, ⟨lo, hi, g, ws, hp, hl, hb, hc⟩, -⟩ := hall
  have HP := Lib.hid hp
  have HN := Lib.hid hn
  have HY : Hid (∀ y : Nat, f ≤ y → (y : Int) < f + n → bitB ws y = false) := Lib.hid (fun y a b => by rw [hb]; exact hy y a b)
  have hn2 : 0 ≤ f ∧ f < 1024 ∧ 1 ≤ n ∧ n ≤ 1024 - f := hn
  have hbits : ∀ y, bitB (putN ws f.toNat n.toNat).1 y = onF σ.pg f n y := fun y => by
    rw [putN_bits _ _ _ _ (by omega), hb, onF]
    congr 1
    rw [decide_eq_decide]
    omega
  have hcnt : (cntF (onF σ.pg f n) 1024 : Int) = (cntF σ.pg 1024 : Nat) + n := by
    have h1 := putN_cnt ws f.toNat n.toNat 1024 (by omega) (by omega)
    rw [putN_count ws _ _ (by omega) (fun y a b => by rw [hb]; exact hy y (by omega) (by omega)), cntB_F, cntB_F, show bitB (putN ws f.toNat n.toNat).1 = onF σ.pg f n from funext hbits, show bitB ws = σ.pg from funext hb] at h1
    omega
  have HBI := Lib.hid hbits
  have HCN := Lib.hid hcnt
  have HC := Lib.hid hc
  have HL := Lib.hid hl
  have HT := Lib.hid h.tz
  clear h hp hb hn hy hn2 hc hbits hcnt hl
  go_enter Tryd.func24, Tryd.ntmps24
  go_wp2_with fail
  refine (pmap_free f n HP.out HN.out HY.out HT.out).mono ?_
  rintro e w1 (⟨hm, rfl, q, rfl⟩ | ⟨hm, rfl, hp2, ho⟩)
  · go_wp2
    go_ret
    exact .inl ⟨hm, rfl, MStep.of_later H.out (below_drewN (Below.refl _ _) q)⟩
  · have HM := Lib.hid hm
    have HP2 := Lib.hid hp2
    have HO := Lib.hid ho
    clear hm hp2 ho
    go_wp2
    go_ret
    refine .inr ⟨HM.out, rfl, H.out.set_pg HA.out (HO.out.1.mono (H.out.own lo (by rw [HC.out lo (Nat.le_refl _) (by have := HP.out.1.1; have := HP.out.2.1; omega)]; decide)).1) (fun i hi hc => ?_) ⟨lo, hi, g, _, by rw [HCN.out]; exact HP2.out, by rw [putN_len]; exact HL.out, HBI.out, HC.out⟩, HCN.out⟩
    by_cases hlo : lo ≤ i
    · by_cases hip : i ≤ P
      · exact absurd (HC.out i hlo hip) hc
      · exact HO.out.2.2 i (by omega)
    · exact HO.out.1.block i (by omega)
end
end Go.Proofs.YtljjcomedjdpaaaDoor

