/- The walk of NumClips. -/
import Derived.Test.YtmcmlplbdepooaaDoorNumS
import Derived.Test.YtmcmlplbdepooaaDoorNumP
namespace Go.Proofs.YtmcmlplbdepooaaDoor
open Go.RowKit
set_option linter.unusedVariables false

theorem clip_is (n a b r : Int) (w : World) (h : clipI n a b = r) :
    Calls Tryd.prog 16 #[.int .i64 n, .int .i64 a, .int .i64 b] w fun e w' => e = .returned (.int .i64 r) ∧ w = w' := by subst h; exact clip_any n a b w
theorem sum_is (most s : Int) (ok : Bool) (a : Option Addr) (len cap : Nat) (zs : List Int) (w : World) (m0 : 0 ≤ most) (m1 : most ≤ 9223372036854775807) (h : Ints .i64 w a len zs) (hs : (sumF most 0 zs).getD 0 = s) (hok : (sumF most 0 zs).isSome = ok) :
    Calls Tryd.prog 17 #[.int .i64 most, .slice a len cap] w fun e w' => e = .returned (.tuple #[.int .i64 s, .bool ok]) ∧ w = w' := by
  subst hs hok; exact sum_any most a len cap zs w m0 m1 h


theorem alc_drew (w : World) (o : Obj) (n : Nat) : Below w.heap.size w ((w.alloc o).drewN n) := below_drewN (alc0 w o) n

set_option maxHeartbeats 800000 in
theorem clips_nil (n a b : Int) (x : Option Addr) (cap : Nat) (w : World) (ht : PowTab w) :
    Calls Tryd.prog 5 #[.int .i64 n, .agg #[.int .i64 a, .int .i64 b], .slice x 0 cap] w fun e w' => e = .returned (.bool true) ∧ Below w.heap.size w w' := by
  have T := Lib.hid ht; clear ht
  obtain ⟨m, em⟩ : ∃ m, m = b % 65536 := ⟨_, rfl⟩
  have e1 := and65535 b; rw [← em] at e1
  have m0 : 0 ≤ m := by omega
  have m1 : m < 65536 := by omega
  clear em
  have hc : clipI n a b = if b < n then (if b < a then a else b) else (if n < a then a else n) := by
    unfold clipI; by_cases h1 : b < n
    · simp [h1]
    · simp [h1]
  have HC := Lib.hid hc; clear hc
  generalize hr : clipI n a b = r at HC
  have HR := Lib.hid hr; clear hr
  go_enter Tryd.func5, Tryd.ntmps5
  go_wp2_with (go_at_call 16; refine (clip_is _ _ _ r _ HR.out).mono ?_; rintro e w' ⟨rfl, rfl⟩)
  all_goals
    have hc := HC.out
    first
      | (rw [if_pos (show b < n by omega), if_pos (show b < a by omega)] at hc; subst hc)
      | (rw [if_pos (show b < n by omega), if_neg (show ¬ b < a by omega)] at hc; subst hc)
      | (rw [if_neg (show ¬ b < n by omega), if_pos (show n < a by omega)] at hc; subst hc)
      | (rw [if_neg (show ¬ b < n by omega), if_neg (show ¬ n < a by omega)] at hc; subst hc)
    clear HC
    go_quiet (fail)
    go_wp2_with fail
    go_loop [9, 10, 13] (fun s ok i => s = .int .i64 0 ∧ ok = .bool true ∧ i = .int .i64 0) (fun _ _ _ => 0)
    case atStart => exact ⟨rfl, rfl, rfl⟩
    case round =>
      obtain ⟨rfl, rfl, rfl⟩ := hrel
      go_wp2_with first
        | (go_at_call 17; refine (sum_is _ 0 true _ _ _ [] _ (by omega) (by omega) ⟨rfl, .inl rfl⟩ rfl rfl).mono ?_; rintro e w' ⟨rfl, rfl⟩)
        | (go_at_call 13; refine (awake_any _ (T.out.later (alc_drew _ _ _))).mono ?_; rintro e w1 ⟨rfl, B1⟩)
      go_ret
      exact ⟨rfl, thn (alc_drew _ _ _) B1⟩
end Go.Proofs.YtmcmlplbdepooaaDoor
