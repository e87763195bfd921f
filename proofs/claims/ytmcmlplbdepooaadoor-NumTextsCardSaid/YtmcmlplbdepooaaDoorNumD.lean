/- What the listed table gives, num.Digits and the law's awake. -/
import Derived.Test.YtmcmlplbdepooaaDoorNum
import Derived.LaidMore
import Derived.MakeChecks
import Derived.Lib.LaidTab
import Derived.Lib.AppendIntMem
import Derived.Lib.SmallJoins
namespace Go.Proofs.YtmcmlplbdepooaaDoor
open Go.RowKit
set_option linter.unusedVariables false

def PowTab (w : World) : Prop := Lib.TabIs Tryd.prog w "internal/strconv.uint64pow10" .u64 Lib.pow10Tab
theorem gPow : ((Tryd.prog.globalNamed "internal/strconv.uint64pow10").bind fun g => (Tryd.prog.globals[g]?).map (·.type)) = some 66 := by kernel_rfl
theorem gSome : (Tryd.prog.globalNamed "internal/strconv.uint64pow10").isSome = true := by kernel_rfl

theorem powTab_of_laid {w : World} (h : laidMetH Tryd.prog Rows.numMultiplesRow.laid w) : PowTab w := by
  rw [MakeChecks.laidMetH_plain _ _ _ (by kernel_rfl)] at h
  obtain ⟨ps, ⟨g0, t0, cs0, f0, p0, q0, hg0, ht0, hv0, hd0, ⟨g1, t1, cs1, f1, p1, q1, hg1, ht1, hv1, hd1, ⟨g2, t2, cs2, f2, p2, q2, hg2, ht2, hv2, hd2, _, _⟩, _⟩, _⟩, _⟩ := h
  have e := gPow
  rw [hg2] at e
  obtain rfl := Option.some.inj (ht2.symm.trans e)
  have hd : Rows.laid_internal_strconv_uint64pow10 (H := Unit) = Lib.tabData .u64 Lib.pow10Tab := by kernel_rfl
  rw [hd] at hd2
  unfold PowTab Lib.TabIs
  rw [hv2, ← Lib.cells_of_tab (k := .u64) (n := 20) (e := 51) (by kernel_rfl) (by kernel_rfl) (by kernel_rfl) (by kernel_rfl) hd2]

theorem PowTab.later {w w' : World} (h : PowTab w) (hb : Below w.heap.size w w') : PowTab w' := by
  obtain ⟨g, hg⟩ := Option.isSome_iff_exists.1 gSome
  exact Joins.tab_stays hg h hb (Nat.le_refl _)

theorem digits_any (n : Int) (w : World) (h0 : -9223372036854775808 ≤ n) (h1 : n ≤ 9223372036854775807) (ht : PowTab w) :
    Calls Tryd.prog 19 #[.int .i64 n] w fun e w' => e = .returned (.string ⟨(Lib.itoa n).toArray⟩) ∧ Below w.heap.size w w' := by
  have T := Lib.hid ht; clear ht
  go_enter Tryd.func19, Tryd.ntmps19
  go_wp2_with (go_at_call 36; refine (Tryd.strconv_Itoa n h0 h1 _ T.out).mono ?_; rintro e w' ⟨rfl, k, os, rfl⟩)
  go_ret
  exact ⟨rfl, Lib.below_grow _ _ (Nat.le_refl _) _ _⟩
theorem digits_is (n : Int) (b : ByteArray) (w : World) (h0 : -9223372036854775808 ≤ n) (h1 : n ≤ 9223372036854775807) (ht : PowTab w) (hb : (⟨(Lib.itoa n).toArray⟩ : ByteArray) = b) :
    Calls Tryd.prog 19 #[.int .i64 n] w fun e w' => e = .returned (.string b) ∧ Below w.heap.size w w' := by
  subst hb; exact digits_any n w h0 h1 ht

theorem down_is (n s r : Int) (w : World) (hn : n ≤ 9223372036854775807) (hs : s ≤ 9223372036854775807) (hr : downI n s = r) :
    Calls Tryd.prog 10 #[.int .i64 n, .int .i64 s] w fun e w' => e = .returned (.int .i64 r) ∧ w = w' := by subst hr; exact down_any n s w hn hs
theorem up_is (n s r : Int) (w : World) (hn : n ≤ 9223372036854775807) (hs : s ≤ 9223372036854775807) (hr : upI n s = r) :
    Calls Tryd.prog 11 #[.int .i64 n, .int .i64 s] w fun e w' => e = .returned (.int .i64 r) ∧ w = w' := by subst hr; exact up_any n s w hn hs
theorem parts_is (n s r : Int) (w : World) (hn : n ≤ 9223372036854775807) (hs : s ≤ 9223372036854775807) (hr : partsI n s = r) :
    Calls Tryd.prog 12 #[.int .i64 n, .int .i64 s] w fun e w' => e = .returned (.int .i64 r) ∧ w = w' := by subst hr; exact parts_any n s w hn hs
theorem log_is (n r : Int) (w : World) (hn : n ≤ 9223372036854775807) (hr : logI n = r) :
    Calls Tryd.prog 14 #[.int .i64 n] w fun e w' => e = .returned (.int .i64 r) ∧ w = w' := by subst hr; exact log_any n w hn

theorem awake_any (w : World) (ht : PowTab w) :
    Calls Tryd.prog 13 #[] w fun e w' => e = .returned (.bool true) ∧ Below w.heap.size w w' := by
  have T := Lib.hid ht; clear ht
  have hs : (⟨(Lib.itoa (-120)).toArray⟩ : ByteArray) = ⟨#[45, 49, 50, 48]⟩ := by
    rw [show Lib.itoa (-120) = [45, 49, 50, 48] by decide +kernel]
  have hl : logI 9 = 3 := by decide +kernel
  have Hs := Lib.hid hs; clear hs
  have Hl := Lib.hid hl; clear hl
  go_enter Tryd.func13, Tryd.ntmps13
  go_wp2_with first
    | (go_at_call 11; refine (up_is 17 16 32 _ (by decide) (by decide) (by decide)).mono ?_; rintro e w' ⟨rfl, rfl⟩)
    | (go_at_call 10; refine (down_is 17 16 16 _ (by decide) (by decide) (by decide)).mono ?_; rintro e w' ⟨rfl, rfl⟩)
    | (go_at_call 12; refine (parts_is 17 16 2 _ (by decide) (by decide) (by decide)).mono ?_; rintro e w' ⟨rfl, rfl⟩)
    | (go_at_call 14; refine (log_is 9 3 _ (by decide) Hl.out).mono ?_; rintro e w' ⟨rfl, rfl⟩)
    | (go_at_call 19; refine (digits_is (-120) _ _ (by decide) (by decide) T.out Hs.out).mono ?_; rintro e w1 ⟨rfl, B1⟩)
  go_ret
  exact ⟨rfl, B1⟩
end Go.Proofs.YtmcmlplbdepooaaDoor
