/- The walk of NumClips, a slice that holds elements. -/
import Derived.Test.YtmcmlplbdepooaaDoorNumC
namespace Go.Proofs.YtmcmlplbdepooaaDoor
open Go.RowKit
set_option linter.unusedVariables false

set_option maxHeartbeats 1600000 in
theorem clips_row (n a b : Int) (bl off len cap q : Nat) (zs : List Int) (w : World) (ht : PowTab w) (hlen : len ≤ cap) (hcap : cap ≤ maxLen) (hq : min (len : Int) 9 = q) (hql : q ≤ len) (hxs : zs.length = q) (hlt : bl < w.heap.size)
    (hc : ∀ i, i < q → w.cell? ⟨bl, off + i, none⟩ = some (.int .i64 (zs.getD i 0))) :
    Calls Tryd.prog 5 #[.int .i64 n, .agg #[.int .i64 a, .int .i64 b], .slice (some ⟨bl, off, none⟩) len cap] w fun e w' => e = .returned (.bool true) ∧ Below w.heap.size w w' := by
  have T := Lib.hid ht; clear ht
  unfold maxLen at hcap
  obtain ⟨m, em⟩ : ∃ m, m = b % 65536 := ⟨_, rfl⟩
  have e1 := and65535 b; rw [← em] at e1
  have m0 : 0 ≤ m := by omega
  have m1 : m < 65536 := by omega
  clear em
  have hcl : clipI n a b = if b < n then (if b < a then a else b) else (if n < a then a else n) := by
    unfold clipI; by_cases h1 : b < n
    · simp [h1]
    · simp [h1]
  have HC := Lib.hid hcl; clear hcl
  generalize hr : clipI n a b = r at HC
  have HR := Lib.hid hr; clear hr
  have HX := Lib.hid hxs; clear hxs
  have HCE := Lib.hid hc; clear hc
  have q9 : q ≤ 9 := by omega
  go_enter Tryd.func5, Tryd.ntmps5
  go_wp2_with (go_at_call 16; refine (clip_is _ _ _ r _ HR.out).mono ?_; rintro e w' ⟨rfl, rfl⟩)
  all_goals
    have hc := HC.out
    first
      | (rw [if_pos (show b < n by omega), if_pos (show b < a by omega)] at hc; have hc2 := hc.symm; subst hc2)
      | (rw [if_pos (show b < n by omega), if_neg (show ¬ b < a by omega)] at hc; have hc2 := hc.symm; subst hc2)
      | (rw [if_neg (show ¬ b < n by omega), if_pos (show n < a by omega)] at hc; have hc2 := hc.symm; subst hc2)
      | (rw [if_neg (show ¬ b < n by omega), if_neg (show ¬ n < a by omega)] at hc; have hc2 := hc.symm; subst hc2)
    clear HC
    go_quiet (fail)
    have BW := alc_drew w (.cells #[.int .i64 a, .int .i64 b] 27) nq
    generalize (w.alloc (.cells #[.int .i64 a, .int .i64 b] 27)).drewN nq = W at *
    have HB := Lib.hid BW; clear BW
    go_wp2_with fail
    go_loop [9, 10, 13] (fun v okv i => ∃ k : Nat, ∃ s : Int, ∃ ok : Bool, k ≤ q ∧ i = .int .i64 k ∧ v = .int .i64 s ∧ okv = .bool ok ∧ 0 ≤ s ∧ s ≤ m ∧ sumF m 0 zs = (if ok then sumF m s (zs.drop k) else none)) (fun _ _ i => q - (intOf i).toNat)
    case atStart => exact ⟨0, 0, true, by omega, rfl, rfl, rfl, by omega, by omega, rfl⟩
    case round =>
      obtain ⟨k, s, ok, hk, rfl, rfl, rfl, s0, s1, hf⟩ := hrel
      have HF := Lib.hid hf; clear hf
      by_cases hlt2 : k < q
      · have hck := HCE.out k hlt2
        rw [← (bcell HB.out).1 _ _ hlt] at hck
        have hit := @sumF_hit m s zs k (by have := HX.out; omega)
        have next := @sumF_go m s zs k (by have := HX.out; omega)
        have HI := Lib.hid hit; clear hit
        have HN := Lib.hid next; clear next
        generalize zs.getD k 0 = z at *
        cases ok
        · go_wp2
          exact ⟨⟨k + 1, s, false, by omega, by go_num, rfl, rfl, s0, s1, HF.out⟩, by simp [intOf]; omega⟩
        · by_cases c1 : z < 0
          · have HIT := Lib.hid (HF.out.trans (HI.out (.inl c1))); clear HF HI HN
            go_wp2
            exact ⟨⟨k + 1, s, false, by omega, by go_num, rfl, rfl, s0, s1, HIT.out⟩, by simp [intOf]; omega⟩
          · by_cases c2 : m - s < z
            · have HIT := Lib.hid (HF.out.trans (HI.out (.inr c2))); clear HF HI HN
              go_wp2
              exact ⟨⟨k + 1, s, false, by omega, by go_num, rfl, rfl, s0, s1, HIT.out⟩, by simp [intOf]; omega⟩
            · have HNX := Lib.hid (HF.out.trans (HN.out (by omega))); clear HF HI HN
              go_wp2
              exact ⟨⟨k + 1, s + z, true, by omega, by go_num, rfl, rfl, by omega, by omega, HNX.out⟩, by simp [intOf]; omega⟩
      · obtain rfl : k = q := by omega
        have hd : zs.drop k = [] := List.drop_eq_nil_of_le (by have := HX.out; omega)
        rw [hd] at HF
        have hints : Ints .i64 W (some ⟨bl, off, none⟩) k zs := ⟨HX.out, .inr ⟨bl, off, rfl, Nat.lt_of_lt_of_le hlt HB.out.size, by omega, fun i hi => by rw [(bcell HB.out).1 _ _ hlt]; exact HCE.out i hi⟩⟩
        have HIN := Lib.hid hints; clear hints hd
        cases ok
        · go_wp2_with first
            | (go_at_call 17; refine (sum_is m 0 false _ _ _ zs _ (by omega) (by omega) (by simpa using HIN.out) (by rw [HF.out]; rfl) (by rw [HF.out]; rfl)).mono ?_; rintro e w' ⟨rfl, rfl⟩)
            | (go_at_call 13; refine (awake_any _ (T.out.later HB.out)).mono ?_; rintro e w1 ⟨rfl, B1⟩)
          go_ret
          exact ⟨rfl, thn HB.out B1⟩
        · go_wp2_with first
            | (go_at_call 17; refine (sum_is m s true _ _ _ zs _ (by omega) (by omega) (by simpa using HIN.out) (by rw [HF.out]; rfl) (by rw [HF.out]; rfl)).mono ?_; rintro e w' ⟨rfl, rfl⟩)
            | (go_at_call 13; refine (awake_any _ (T.out.later HB.out)).mono ?_; rintro e w1 ⟨rfl, B1⟩)
          go_ret
          exact ⟨rfl, thn HB.out B1⟩
end Go.Proofs.YtmcmlplbdepooaaDoor
