/- The memory: the pages that are mapped, in their order. -/
import Derived.Test.YtljjcomedjdpaaaDoorMmU
import Derived.Test.YtljjcomedjdpaaaDoorSetL
namespace Go.Proofs.YtljjcomedjdpaaaDoor
set_option maxRecDepth 100000
open Go.RowKit Go.ChangeMaps Go.MapKept
set_option linter.unusedVariables false
set_option linter.unusedSimpArgs false

def listF (pg : Nat → Bool) : Nat → List Int
  | 0 => []
  | j + 1 => if pg j then listF pg j ++ [(j : Int)] else listF pg j
theorem listB_F {ws : List Nat} {pg : Nat → Bool} (h : ∀ y, bitB ws y = pg y) (n : Nat) : listB ws n = listF pg n := by
  induction n with
  | zero => rfl
  | succ n ih => rw [listB, listF, h, ih]
theorem plist_any {lo hi g p : Nat} {W : World} {c most peak : Int} {ws : List Nat} (h : PgIs lo hi g p W c most peak ws) (hz : ∀ y, 1024 ≤ y → bitB ws y = false) (ht : TzTab W) :
    Calls Tryd.prog 60 #[.pointer (some ⟨p, 0, none⟩)] W (ListPost (listB ws 1024) W) := by
  obtain ⟨h1, _, _, h5, h6, h7, h8⟩ := h
  have H := Lib.hid (slist_any lo hi g W c 1024 ws h1 hz ht)
  clear h1 hz ht
  go_enter Tryd.func60, Tryd.ntmps60
  go_wp2_with fail
  refine H.out.mono ?_
  rintro e w' ⟨a, cap, rfl, h⟩
  have HH := Lib.hid h
  clear h
  go_wp2
  go_ret
  exact ⟨a, cap, rfl, HH.out⟩
section
variable {B : Nat} {col : Nat → Nat} {M : Nat} {W : World} {σ : MS}
theorem mlist (h : MEM B col M W σ) (hz : ∀ y, 1024 ≤ y → σ.pg y = false) :
    Calls Tryd.prog 38 #[.pointer (some ⟨M, 0, none⟩)] W (ListPost (listF σ.pg 1024) W) := by
  have ht := h.tz
  obtain ⟨P, sg, t, S, kb, ⟨k0, -, -, -, -⟩, ⟨lo, hi, g, ws, hp, -, hb, -⟩, -⟩ := h.ex
  have H := Lib.hid (plist_any hp (fun y hy => by rw [hb]; exact hz y hy) ht)
  rw [listB_F hb] at H
  clear h hp hb ht hz
  go_enter Tryd.func38, Tryd.ntmps38
  go_wp2_with fail
  refine H.out.mono ?_
  rintro e w' ⟨a, cap, rfl, h⟩
  have HH := Lib.hid h
  clear h
  go_wp2
  go_ret
  exact ⟨a, cap, rfl, HH.out⟩
end
end Go.Proofs.YtljjcomedjdpaaaDoor

