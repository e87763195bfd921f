/- Memory: which pages are mapped; what a stretch is refused for. -/
import Derived.Test.YtljjcomedjdpaaaDoorMmB
namespace Go.Proofs.YtljjcomedjdpaaaDoor
set_option maxRecDepth 100000
open Go.RowKit Go.ChangeMaps Go.MapKept
set_option linter.unusedVariables false
set_option linter.unusedSimpArgs false

theorem pages_any (b l : Int) (w : World) :
    Calls Tryd.prog 91 #[.agg #[.int .i64 b, .int .i64 l]] w fun e w' => e = .returned (.tuple #[.int .i64 (spF b l 256), .int .i64 (spN b l 256)]) ∧ Below w.heap.size w w' := by
  go_enter Tryd.func91, Tryd.ntmps91
  go_wp2_with (go_at_call 55; refine (sparts_any _ _ _ _ (by omega) (by omega)).mono ?_; rintro e w1 ⟨rfl, hb⟩)
  go_ret2
  exact ⟨rfl, ((Below.refl _ _).alloc (Nat.le_refl _) _).trans (hb.mono (by simp))⟩
theorem spPg {b l : Int} (h : mayB b l = true) : spF b l 256 = b / 256 ∧ spN b l 256 = (b + l - 1) / 256 - b / 256 + 1 := by
  obtain ⟨h1, h2, h3, h4⟩ := mayB_iff.1 h
  rw [spF, spN, if_pos h, if_pos h, downI, if_neg (by omega), partsI, if_neg (by omega)]
  omega
theorem sp_no {b l s : Int} (h : mayB b l = false) : spF b l s = 0 ∧ spN b l s = 0 := by
  rw [spF, spN, if_neg (by rw [h]; decide), if_neg (by rw [h]; decide)]
  exact ⟨rfl, rfl⟩

/-- Are all pages that a stretch touches mapped? -/
def openB (pg : Nat → Bool) (b l : Int) : Bool := mayB b l && wholeF pg (b / 256).toNat ((b + l - 1) / 256 - b / 256 + 1).toNat
/-- What a stretch is refused for. -/
def refE (pg : Nat → Bool) (b l : Int) : Int := if mayB b l then (if openB pg b l then 0 else 5) else 1
section
variable {B : Nat} {col : Nat → Nat} {M : Nat} {W : World} {σ : MS}
theorem MEM.old (h : MEM B col M W σ) {i : Nat} (hi : W.heap.size ≤ i) : col i = 0 := by
  by_cases e : col i = 0
  · exact e
  · have := h.own i e; omega
theorem mwhole (r : Bool) (f n : Int) (h : MEM B col M W σ) (hr : (decide (1 ≤ n ∧ 0 ≤ f ∧ f ≤ 1024 - n) && wholeF σ.pg f.toNat n.toNat) = r) :
    Calls Tryd.prog 90 #[.pointer (some ⟨M, 0, none⟩), .int .i64 f, .int .i64 n] W fun e w' => e = .returned (.bool r) ∧ W = w' := by
  obtain ⟨P, sg, t, S, kb, ⟨k0, -, -, -, -⟩, ⟨lo, hi, g, ws, hp, -, hb, -⟩, -⟩ := h.ex
  have HP := Lib.hid hp
  have HR : Hid ((decide (1 ≤ n ∧ 0 ≤ f ∧ f ≤ 1024 - n) && wholeB ws f.toNat n.toNat) = r) := Lib.hid (by rw [wholeB_F, show bitB ws = σ.pg from funext hb]; exact hr)
  clear h hp hb hr
  go_enter Tryd.func90, Tryd.ntmps90
  go_wp2_with fail
  refine (pwhole r f n HP.out HR.out).mono ?_
  rintro e w' ⟨rfl, rfl⟩
  go_wp2
  go_ret
  exact ⟨rfl, rfl⟩
theorem mopen (r : Bool) (b l : Int) (h : MEM B col M W σ) (hr : openB σ.pg b l = r) :
    Calls Tryd.prog 81 #[.pointer (some ⟨M, 0, none⟩), .agg #[.int .i64 b, .int .i64 l]] W fun e w' => e = .returned (.bool r) ∧ Below W.heap.size W w' := by
  have H := Lib.hid h
  have HR : Hid ((decide (1 ≤ spN b l 256 ∧ 0 ≤ spF b l 256 ∧ spF b l 256 ≤ 1024 - spN b l 256) && wholeF σ.pg (spF b l 256).toNat (spN b l 256).toNat) = r) := Lib.hid (by
    rw [← hr, openB]
    cases hm : mayB b l with
    | false => rw [(sp_no hm).1, (sp_no hm).2]; rfl
    | true =>
      obtain ⟨h1, h2, h3, h4⟩ := mayB_iff.1 hm
      rw [(spPg hm).1, (spPg hm).2, decide_eq_true (by omega)])
  clear h hr
  go_enter Tryd.func81, Tryd.ntmps81
  go_wp2_with fail
  refine (pages_any b l _).mono ?_
  rintro e w1 ⟨rfl, hb⟩
  have HB : Hid (Below W.heap.size W w1) := Lib.hid (thn (alc0 W _) hb)
  clear hb
  generalize spF b l 256 = F at *
  generalize spN b l 256 = N at *
  go_wp2_with fail
  refine (mwhole r F N (H.out.later HB.out) HR.out).mono ?_
  rintro e w' ⟨rfl, rfl⟩
  go_wp2
  go_ret
  exact ⟨rfl, HB.out⟩
theorem mrefused (r : Int) (b l : Int) (h : MEM B col M W σ) (hr : refE σ.pg b l = r) :
    Calls Tryd.prog 70 #[.pointer (some ⟨M, 0, none⟩), .agg #[.int .i64 b, .int .i64 l]] W fun e w' => e = .returned (.int .i64 r) ∧ Below W.heap.size W w' := by
  have H := Lib.hid h
  unfold refE at hr
  clear h
  cases hm : mayB b l with
  | false =>
    rw [hm] at hr
    obtain rfl : 1 = r := hr
    have HM := Lib.hid hm
    clear hm
    go_enter Tryd.func70, Tryd.ntmps70
    go_wp2_with fail
    refine (may_is false _ _ _ HM.out).mono ?_
    rintro e w1 ⟨rfl, hb⟩
    have HB : Hid (Below W.heap.size W w1) := Lib.hid (thn (alc0 W _) hb)
    clear hb
    go_wp2
    go_ret
    exact ⟨rfl, HB.out⟩
  | true =>
    rw [hm] at hr
    cases ho : openB σ.pg b l with
    | false =>
      rw [ho] at hr
      obtain rfl : 5 = r := hr
      have HM := Lib.hid hm
      have HO := Lib.hid ho
      clear hm ho
      go_enter Tryd.func70, Tryd.ntmps70
      go_wp2_with fail
      refine (may_is true _ _ _ HM.out).mono ?_
      rintro e w1 ⟨rfl, hb⟩
      have HB : Hid (Below W.heap.size W w1) := Lib.hid (thn (alc0 W _) hb)
      obtain ⟨hc, hf⟩ := bcell hb
      clear hb
      go_wp2_with fail
      refine (mopen false b l (H.out.later HB.out) HO.out).mono ?_
      rintro e w2 ⟨rfl, hb⟩
      have HB2 : Hid (Below W.heap.size W w2) := Lib.hid (thn HB.out hb)
      clear hb hc hf
      go_wp2
      go_ret
      exact ⟨rfl, HB2.out⟩
    | true =>
      rw [ho] at hr
      obtain rfl : 0 = r := hr
      have HM := Lib.hid hm
      have HO := Lib.hid ho
      clear hm ho
      go_enter Tryd.func70, Tryd.ntmps70
      go_wp2_with fail
      refine (may_is true _ _ _ HM.out).mono ?_
      rintro e w1 ⟨rfl, hb⟩
      have HB : Hid (Below W.heap.size W w1) := Lib.hid (thn (alc0 W _) hb)
      obtain ⟨hc, hf⟩ := bcell hb
      clear hb
      go_wp2_with fail
      refine (mopen true b l (H.out.later HB.out) HO.out).mono ?_
      rintro e w2 ⟨rfl, hb⟩
      have HB2 : Hid (Below W.heap.size W w2) := Lib.hid (thn HB.out hb)
      clear hb hc hf
      go_wp2
      go_ret
      exact ⟨rfl, HB2.out⟩
theorem openB_may {pg : Nat → Bool} {b l : Int} (h : openB pg b l = true) : mayB b l = true := by
  unfold openB at h
  rw [Bool.and_eq_true] at h
  exact h.1
theorem refE_ok {pg : Nat → Bool} {b l : Int} : refE pg b l = 0 ↔ openB pg b l = true := by
  unfold refE
  constructor
  · intro h
    split at h
    · split at h
      · assumption
      · omega
    · omega
  · intro h
    rw [if_pos (openB_may h), if_pos h]
/-- A byte's tag. -/
def tagI (σ : MS) (at_ : Int) : Int := if openB σ.pg at_ 1 then (σ.f (at_ / 16).toNat : Int) else -1
end
end Go.Proofs.YtljjcomedjdpaaaDoor

