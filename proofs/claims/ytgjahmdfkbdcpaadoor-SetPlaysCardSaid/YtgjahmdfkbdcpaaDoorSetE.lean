/- Contracts of package set: Same. -/
import Derived.Test.YtgjahmdfkbdcpaaDoorSetV
import Derived.WalkSmall
namespace Go.Proofs.YtgjahmdfkbdcpaaDoor
open Go.RowKit
set_option linter.unusedVariables false
set_option linter.unusedSimpArgs false

theorem stillN (W : World) (a b : Nat) : (W.drewN a).drewN b = W.drewN (a + b) := by simp
theorem sequal_any (W : World) (ga gb ca cb : Nat) (va vb : List Nat) (h : WordsAt W ga va) (k : WordsAt W gb vb) (hl : va.length = vb.length) (hm : va.length ≤ 1024) :
    Calls Tryd.prog 43 #[.slice (some ⟨ga, 0, none⟩) va.length ca, .slice (some ⟨gb, 0, none⟩) vb.length cb] W fun e w' => e = .returned (.bool (decide (va = vb))) ∧ ∃ q, w' = W.drewN q := by
  have HA := Lib.hid h; clear h
  have HB := Lib.hid k; clear k
  have hall : va = vb ↔ ∀ i, i < va.length → va.getD i 0 = vb.getD i 0 := by
    constructor
    · rintro rfl i _; rfl
    · intro q
      apply List.ext_getElem hl
      intro i h1 h2
      have := q i h1
      simpa [List.getD, List.getElem?_eq_getElem h1, List.getElem?_eq_getElem h2] using this
  have HQ := Lib.hid hall; clear hall
  obtain ⟨L, hL⟩ : ∃ L, va.length = L := ⟨_, rfl⟩
  rw [← hl, hL]
  rw [hL] at hm
  have HL := Lib.hid hL
  have HM := Lib.hid hl
  clear hL hl
  have hne : (L : Int) = L := rfl
  go_enter Tryd.func43, Tryd.ntmps43
  go_wp2_with fail
  go_loopw [13] (fun i wr => ∃ k q : Nat, k ≤ L ∧ i = .int .i64 k ∧ wr = W.drewN q ∧ Hid (∀ j, j < k → va.getD j 0 = vb.getD j 0)) (fun i _ => L - (intOf i).toNat)
  case atStart => exact ⟨0, 0, by omega, rfl, rfl, Lib.hid (fun j hj => by omega)⟩
  case round =>
    obtain ⟨k, q, hk, rfl, rfl, HK⟩ := hrel
    by_cases hlt : k < L
    · obtain ⟨a1, a2, a3⟩ := HA.out k (by rw [HL.out]; exact hlt)
      obtain ⟨b1, b2, b3⟩ := HB.out k (by rw [← HM.out, HL.out]; exact hlt)
      obtain ⟨x, hx⟩ : ∃ x, va.getD k 0 = x := ⟨_, rfl⟩
      obtain ⟨y, hy⟩ : ∃ y, vb.getD k 0 = y := ⟨_, rfl⟩
      rw [hx] at a1
      rw [hy] at b1
      have HX := Lib.hid hx
      have HY := Lib.hid hy
      clear hx hy a3 b3 a2 b2
      have k0 : (0 : Int) ≤ (k : Int) := by omega
      have k1 : (k : Int) < (L : Int) := by omega
      have k2 : (k : Int).toNat = k := Int.toNat_natCast k
      by_cases hxy : x = y
      · have qxy : ((x : Int) == (y : Int)) = true := by simp [hxy]
        have HE := Lib.hid hxy; clear hxy
        go_wp2_with fail
        go_quiet (fail)
        go_wp2
        refine ⟨⟨k + 1, _, by omega, by go_num, rfl, Lib.hid (fun j hj => ?_)⟩, by simp [intOf]; omega⟩
        by_cases e : j = k
        · rw [e, HX.out, HY.out]; exact HE.out
        · exact HK.out j (by omega)
      · have qxy : ((x : Int) == (y : Int)) = false := by rw [beq_eq_false_iff_ne]; omega
        have HE := Lib.hid hxy; clear hxy
        go_wp2_with fail
        go_quiet (fail)
        go_wp2
        go_ret
        exact ⟨ret_bool (decide_eq_false (fun e => HE.out (by rw [← HX.out, ← HY.out, e]))).symm, by first | exact ⟨_, rfl⟩ | exact ⟨_, stillN _ _ _⟩⟩
    · obtain rfl : k = L := by omega
      go_wp2_with fail
      go_ret
      exact ⟨ret_bool (decide_eq_true (HQ.out.2 (by rw [HL.out]; exact HK.out))).symm, _, rfl⟩

theorem ssame_is (r : Bool) (lo hi g lo' hi' g' : Nat) (W : World) (n c c' : Int) (va vb : List Nat) (h : SetIs lo hi g W n c va) (k : SetIs lo' hi' g' W n c' vb) (hl : va.length = vb.length) (hr : decide (va = vb) = r) :
    Calls Tryd.prog 16 #[.pointer (some ⟨g, 0, none⟩), .pointer (some ⟨g', 0, none⟩)] W fun e w' => e = .returned (.bool r) ∧ ∃ q, w' = W.drewN q := by
  subst hr
  obtain ⟨_, hn, c0, c1, f1, gw, cap, c2, g1, g2, g3, hc, hc2, hw⟩ := h
  obtain ⟨_, hn', c0', c1', f1', gw', cap', c2', g1', g2', g3', hc', hc2', hw'⟩ := k
  have HE := Lib.hid (fun q => sequal_any (W.drewN q) gw gw' cap cap' va vb hw hw' hl hn.2.2.2)
  clear hw hw'
  obtain ⟨A, hA⟩ : ∃ A, va.length = A := ⟨_, rfl⟩
  obtain ⟨B, hB⟩ : ∃ B, vb.length = B := ⟨_, rfl⟩
  rw [hA, hB] at HE
  rw [hA] at c2
  rw [hB] at c2'
  clear hA hB hl hn hn' hc hc'
  have hnn : (n == n) = true := by simp
  go_enter Tryd.func16, Tryd.ntmps16
  go_wp2_with fail
  go_quiet (exact Calls.quiet_of (HE.out _))
  go_wp2
  go_ret
  exact ⟨rfl, _, rfl⟩
end Go.Proofs.YtgjahmdfkbdcpaaDoor
