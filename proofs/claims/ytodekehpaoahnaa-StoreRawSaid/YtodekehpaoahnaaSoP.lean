/- StoreRaw: every case together; bytes that came in. -/
import Derived.Test.YtodekehpaoahnaaSoOloL
import Derived.Test.YtodekehpaoahnaaSoOloS
import Derived.Test.YtodekehpaoahnaaSoOhiL
import Derived.Test.YtodekehpaoahnaaSoOhiS
import Derived.Test.YtodekehpaoahnaaSoOnoL
import Derived.Test.YtodekehpaoahnaaSoOnoS
import Derived.Test.YtodekehpaoahnaaSoOyesL
import Derived.Test.YtodekehpaoahnaaSoOyesS
import Derived.OpenShut
import Derived.SizedLaws
namespace Go.Proofs.Ytodekehpaoahnaa
open Go.RowKit Go.ChangeShapes Go.WideShapes Go.Deep
set_option linter.unusedVariables false

theorem walkStoreRaw (a n : Int) (p : Option Addr) (cp ln : Nat) (W : World) (hsrc : ln = 0 ∨ ∃ (d : Nat → Nat) (sb so : Nat), p = some ⟨sb, so, none⟩ ∧ sb < W.heap.size ∧ ∀ i, i < ln → W.cell? ⟨sb, so + i, none⟩ = some (.int .u8 (d i : Int))) (hlc : ln ≤ cp) :
    Calls Try.prog 4 #[.int .i64 a, .int .i64 n, .slice p ln cp] W fun e w' => e = .returned (.bool true) ∧ Below W.heap.size W w' := by
  by_cases hl : 20 < ln
  · by_cases h0 : 0 ≤ a
    · by_cases h1 : a < 262144
      · obtain ⟨a', rfl⟩ : ∃ a' : Nat, a = (a' : Int) := ⟨a.toNat, by omega⟩
        cases hw : mayB (a' : Int) ((20 : Nat) : Int) with
        | false => exact sraw_noL a' n (by omega) p ln cp W hlc hl hw
        | true =>
          obtain h | ⟨d, sb, so, rfl, hsb, hs⟩ := hsrc
          · omega
          · exact sraw_yesL a' n (by omega) sb so ln cp W hlc hl hw d hsb hs
      · exact sraw_hiL a n h0 h1 p ln cp W hlc hl (by rw [mayB_false]; omega)
    · exact sraw_loL a n h0 p ln cp W hlc hl (by rw [mayB_false]; omega)
  · by_cases h0 : 0 ≤ a
    · by_cases h1 : a < 262144
      · obtain ⟨a', rfl⟩ : ∃ a' : Nat, a = (a' : Int) := ⟨a.toNat, by omega⟩
        cases hw : mayB (a' : Int) (ln : Int) with
        | false => exact sraw_noS a' n (by omega) p ln cp W hlc hl hw
        | true =>
          obtain h | ⟨d, sb, so, rfl, hsb, hs⟩ := hsrc
          · have := mayB_iff.1 hw; omega
          · exact sraw_yesS a' n (by omega) sb so ln cp W hlc hl hw d hsb hs
      · exact sraw_hiS a n h0 h1 p ln cp W hlc hl (by rw [mayB_false]; omega)
    · exact sraw_loS a n h0 p ln cp W hlc hl (by rw [mayB_false]; omega)
section
variable {H : Type} {enc : TypeId × Value → H} {w : World} {base : Nat} {spare : Nat → Bool} {held : Bool}
theorem bytes_of {fuel : Nat} {A : Option Addr} {ln cp : Nat} {x : DataW H × List MemPlace} (h : DataW.trod enc Try.prog w base spare held fuel 26 [.slice A ln cp] = some x) :
    (ln = 0 ∨ ∃ (d : Nat → Nat) (sb so : Nat), A = some ⟨sb, so, none⟩ ∧ sb < w.heap.size ∧ ∀ i, i < ln → w.cell? ⟨sb, so + i, none⟩ = some (.int .u8 (d i : Int))) ∧ ln ≤ cp := by
  rcases open_ints Try.underlying26 Try.underlying5 (by kernel_rfl) h with ⟨hcs, _⟩ | ⟨a, len, cap, zs, hcs, _, hl, hm, hz, hx, hcell, hwz⟩
  · injection hcs with hv _
    injection hv with _ e1 e2
    exact ⟨.inl e1, by omega⟩
  · injection hcs with hv _
    injection hv with e0 e1 e2
    subst e0 e1 e2
    refine ⟨?_, hl⟩
    have hzl : ln ≤ zs.length := by rw [hz]; split <;> omega
    by_cases h0 : ln = 0
    · exact .inl h0
    · obtain ⟨b, off, rfl, hc⟩ := ints_at hcell (show 0 < zs.length by omega)
      refine .inr ⟨fun i => (zs.getD i 0).toNat, b, off, rfl, World.block_lt_of_cell? w _ (hc 0 (by omega)), fun i hi => ?_⟩
      have hi2 : i < zs.length := by omega
      rw [hc i hi2]
      have h3 := hwz zs[i] (List.getElem_mem hi2)
      simp [Lit.wf] at h3
      have h1 : IntKind.u8.min = 0 := rfl
      have h2 : IntKind.u8.max = 255 := rfl
      have e : zs.getD i 0 = zs[i] := by simp [List.getD, hi2]
      refine congrArg (fun z => some (Value.int .u8 z)) ?_
      show zs.getD i 0 = (((zs.getD i 0).toNat : Nat) : Int)
      rw [e]
      omega
end
end Go.Proofs.Ytodekehpaoahnaa
