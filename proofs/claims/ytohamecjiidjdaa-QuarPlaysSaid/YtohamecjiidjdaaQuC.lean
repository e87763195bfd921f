/- Contracts of package quar: Bytes, batch. -/
import Derived.Test.YtohamecjiidjdaaQuA
import Derived.BigQuiet
import Derived.WalkSmall
namespace Go.Proofs.Ytohamecjiidjdaa
open Go.RowKit
set_option linter.unusedVariables false
set_option linter.unusedSimpArgs false

theorem qbytes (g b : Nat) (ms : List It) (W : World) (h : QuB g b W ms) (hsm : ms.length ≤ 100) (hp : ∀ p ∈ ms, 0 ≤ p.room ∧ p.room ≤ 1023) :
    Calls Try.prog 14 #[.pointer (some ⟨g, 0, none⟩)] W fun e w' => e = .returned (.int .i64 (sumR ms)) ∧ Below W.heap.size W w' := by
  have H := Lib.hid h
  clear h
  go_enter Try.func14, Try.ntmps14
  go_wp2_with fail
  refine (qlist g b ms _ H.out (by omega)).mono ?_
  rintro e w1 ⟨b1, v1, rfl, hb1, hv1, hbel⟩
  have HP := Lib.hid hp
  clear hp
  have hsh := hv1
  obtain ⟨A, c, rfl, _⟩ := hsh
  have HV := Lib.hid hv1
  have HBl := Lib.hid hbel
  clear hv1 hbel H
  go_wp2_with fail
  go_loopw [3, 9] (fun v3 v9 wr => ∃ i : Nat, i ≤ ms.length ∧ v9 = .int .i64 i ∧ v3 = .int .i64 (sumR (ms.take i)) ∧ Hid (Below w1.heap.size w1 wr)) (fun _ v9 _ => ms.length - (intOf v9).toNat)
  case atStart => exact ⟨0, by omega, rfl, by simp [sumR], Lib.hid (Below.refl _ _)⟩
  case round =>
    obtain ⟨i, hi, rfl, rfl, HW⟩ := hrel
    by_cases hlt : i < ms.length
    · rcases vi_open HV.out with ⟨_, rfl⟩ | ⟨off, c', e, h7, h8, h9, h10⟩
      · simp at hlt
      · injection e with e1 e2 e3
        subst e1; subst e3
        obtain ⟨p, hpi⟩ : ∃ p, ms[i]? = some p := ⟨_, List.getElem?_eq_getElem hlt⟩
        obtain ⟨q0, q1, q2, q3, q4⟩ := h10 i p hpi
        have r0 := (HW.out.cell (p := ⟨b1, off + i * 5, none⟩) h7).trans q0
        have r1 := (HW.out.cell (p := ⟨b1, off + i * 5 + 1, none⟩) h7).trans q1
        have r2 := (HW.out.cell (p := ⟨b1, off + i * 5 + 2, none⟩) h7).trans q2
        have r3 := (HW.out.cell (p := ⟨b1, off + i * 5 + 3, none⟩) h7).trans q3
        have r4 := (HW.out.cell (p := ⟨b1, off + i * 5 + 4, none⟩) h7).trans q4
        have hs := sumR_take ms i p hpi
        have hb := sumR_bd (ms.take i) (fun x hx => HP.out x (List.mem_of_mem_take hx))
        have hpb := HP.out p (List.mem_of_getElem? hpi)
        have htl : (ms.take i).length ≤ 100 := by rw [List.length_take]; omega
        obtain ⟨s, hsd⟩ : ∃ s, sumR (ms.take i) = s := ⟨_, rfl⟩
        rw [hsd] at hs hb ⊢
        have HS := Lib.hid hs
        clear h10 q0 q1 q2 q3 q4 hs hsd
        have i1 : (i : Int) < ms.length := by omega
        go_wp2_with fail
        go_roundw
        case rel => exact ⟨i + 1, by omega, by go_num, by rw [HS.out], Lib.hid (HW.out.alloc HW.out.size _)⟩
        case measure => simp [intOf] <;> omega
    · obtain rfl : i = ms.length := by omega
      go_wp2
      go_ret
      exact ⟨ret_int (by rw [List.take_length]), thn HBl.out HW.out⟩
/-- How many items at a list's head are of an epoch. -/
def bat (e : Int) : List It → Nat
  | [] => 0
  | p :: r => if p.ep = e then bat e r + 1 else 0
theorem bat_drop (e : Int) (ms : List It) (k : Nat) (p : It) (h : ms[k]? = some p) : bat e (ms.drop k) = if p.ep = e then bat e (ms.drop (k + 1)) + 1 else 0 := by
  have hk := (List.getElem?_eq_some_iff.1 h).1
  rw [List.drop_eq_getElem_cons hk]
  rw [List.getElem?_eq_getElem hk] at h
  rw [Option.some.inj h, bat]
theorem qbatch (g b F : Nat) (ms : List It) (p0 : It) (W : World) (h : QuB g b W ms) (hF : ms[F]? = some p0) (hsm : ms.length ≤ 100) :
    Calls Try.prog 24 #[.pointer (some ⟨g, 0, none⟩), .int .i64 F] W fun e w' => e = .returned (.int .i64 (bat p0.ep (ms.drop F))) ∧ ∃ q, w' = W.drewN q := by
  obtain ⟨h1, h2, h3, v, h5, h6⟩ := h
  have hFl := (List.getElem?_eq_some_iff.1 hF).1
  rcases vi_open h6 with ⟨_, rfl⟩ | ⟨off, c, rfl, h7, h8, h9, h10⟩
  · simp at hFl
  · obtain ⟨_, _, _, _, z4⟩ := h10 F p0 hF
    have HC := Lib.hid h10
    clear h6 h10
    have f1 : (F : Int) < ms.length := by omega
    go_enter Try.func24, Try.ntmps24
    go_wp2_with fail
    go_loopw [5] (fun v5 wr => ∃ n q : Nat, F + n ≤ ms.length ∧ v5 = .int .i64 n ∧ Hid (bat p0.ep (ms.drop F) = n + bat p0.ep (ms.drop (F + n))) ∧ Hid (wr = W.drewN q)) (fun v5 _ => ms.length - F - (intOf v5).toNat)
    case atStart => exact ⟨0, 0, by omega, rfl, Lib.hid (by simp), Lib.hid rfl⟩
    case round =>
      obtain ⟨n, q, hn, rfl, HB, HW⟩ := hrel
      have hwr := HW.out
      have g5 : wr.cell? ⟨g, 0, none⟩ = some (.slice (some ⟨b, off, none⟩) ms.length c) := by rw [hwr]; exact h5
      have z5 : wr.cell? ⟨b, off + F * 5 + 4, none⟩ = some (.int .i64 p0.ep) := by rw [hwr]; exact z4
      clear hwr
      by_cases hlt : F + n < ms.length
      · obtain ⟨p, hp⟩ : ∃ p, ms[F + n]? = some p := ⟨_, List.getElem?_eq_getElem hlt⟩
        obtain ⟨_, _, _, _, y4⟩ := HC.out (F + n) p hp
        have y5 : wr.cell? ⟨b, off + (F + n) * 5 + 4, none⟩ = some (.int .i64 p.ep) := by rw [HW.out]; exact y4
        have hbd := bat_drop p0.ep ms (F + n) p hp
        have i1 : (F : Int) + n < ms.length := by omega
        have i2 : ((F : Int) + n).toNat = F + n := by omega
        have i3 : (0 : Int) ≤ (F : Int) + n := by omega
        have i4 : decide ((F : Int) + n < ms.length) = true := decide_eq_true i1
        by_cases he : p.ep = p0.ep
        · have he2 : (p.ep == p0.ep) = true := by simpa using he
          have HB2 : Hid (bat p0.ep (ms.drop F) = (n + 1) + bat p0.ep (ms.drop (F + (n + 1)))) := Lib.hid (by rw [HB.out, hbd, if_pos he, show F + (n + 1) = F + n + 1 by omega]; omega)
          have HE := Lib.hid he
          clear y4 hbd he HB
          go_wp2_with fail
          go_quiet (fail)
          go_wp2_with fail
          go_roundw
          case rel => exact ⟨n + 1, q + nq, by omega, by go_num, HB2, Lib.hid (by rw [HW.out]; simp)⟩
          case measure => simp [intOf] <;> omega
        · have he2 : (p.ep == p0.ep) = false := by simpa using he
          have HB2 : Hid (bat p0.ep (ms.drop F) = n) := Lib.hid (by rw [HB.out, hbd, if_neg he]; rfl)
          clear y4 hbd he HB
          go_wp2_with fail
          go_quiet (fail)
          go_wp2
          go_ret
          exact ⟨ret_int (by rw [HB2.out]), _, by rw [HW.out]; exact World.drewN_drewN ..⟩
      · have hfn : F + n = ms.length := by omega
        have HB2 : Hid (bat p0.ep (ms.drop F) = n) := Lib.hid (by have := HB.out; rw [hfn, List.drop_length] at this; exact this)
        have i4 : decide ((F : Int) + n < ms.length) = false := decide_eq_false (by omega)
        clear HB hfn
        go_wp2_with fail
        go_quiet (fail)
        go_wp2
        go_ret
        exact ⟨ret_int (by rw [HB2.out]), _, by rw [HW.out]; exact World.drewN_drewN ..⟩
end Go.Proofs.Ytohamecjiidjdaa
