/- Dice: near, size, bytes, kinds. -/
import Derived.Test.YtahggokeelgjdaaDiA
import Derived.Test.YtahggokeelgjdaaVz
namespace Go.Proofs.Ytahggokeelgjdaa
open Go.RowKit
set_option linter.unusedVariables false
set_option linter.unusedSimpArgs false

def DPost (g : Nat) (P : Int → Prop) (W : World) (e : Ending) (w' : World) : Prop := ∃ r : Int, e = .returned (.int .i64 r) ∧ P r ∧ ∃ s', DP g s' W w'
theorem dfromP (g s : Nat) (a b : Int) (W : World) (h : DC g s W) (hab : a ≤ b) (ha : -1048576 ≤ a ∧ b ≤ 1048576) :
    Calls Try.prog 36 #[.pointer (some ⟨g, 0, none⟩), .int .i64 a, .int .i64 b] W (DPost g (fun r => a ≤ r ∧ r ≤ b) W) :=
  (dfrom g s a b (b - a + 1).toNat W h (by omega) (by omega) (by omega) (by omega)).mono fun e w' ⟨he, hd⟩ => ⟨_, he, by have := bel_lt s (b - a + 1).toNat (by omega); omega, _, hd⟩
theorem duptoP (g s : Nat) (n : Int) (W : World) (h : DC g s W) (hn : 1 ≤ n ∧ n ≤ 1048576) :
    Calls Try.prog 41 #[.pointer (some ⟨g, 0, none⟩), .int .i64 n] W (DPost g (fun r => 0 ≤ r ∧ r < n) W) := by
  obtain ⟨m, rfl⟩ := Int.eq_ofNat_of_zero_le (show 0 ≤ n by omega)
  exact (dupto g s m W h (by omega) (by omega)).mono fun e w' ⟨he, hd⟩ => ⟨_, he, by have := bel_lt s m (by omega); omega, _, hd⟩
set_option maxRecDepth 100000 in
set_option maxHeartbeats 3200000 in
theorem dnear (g s : Nat) (n : Int) (W : World) (h : DC g s W) (hn : 1 ≤ n ∧ n ≤ 1048576) :
    Calls Try.prog 43 #[.pointer (some ⟨g, 0, none⟩), .int .i64 n] W (DPost g (fun r => -1 ≤ r ∧ r ≤ n) W) := by
  have H := Lib.hid (DP.start h)
  have HN := Lib.hid hn
  clear h hn
  go_enter Try.func43, Try.ntmps43
  go_wp2_with fail
  with_reducible refine Calls.mono (duptoP g s n _ H.out.dc HN.out) ?_
  rintro e w1 ⟨r1, rfl, ⟨a1, b1⟩, s1, hd⟩
  have H1 := Lib.hid (H.out.trans hd)
  clear hd H
  go_wp2_with fail
  with_reducible refine Calls.mono (duptoP g _ n _ H1.out.dc HN.out) ?_
  rintro e w2 ⟨r2, rfl, ⟨a2, b2⟩, s2, hd⟩
  have H2 := Lib.hid (H1.out.trans hd)
  clear hd H1
  go_wp2_with fail
  with_reducible refine Calls.mono (duptoP g _ n _ H2.out.dc HN.out) ?_
  rintro e w3 ⟨r3, rfl, ⟨a3, b3⟩, s3, hd⟩
  have H3 := Lib.hid (H2.out.trans hd)
  clear hd H2
  go_wp2_with fail
  all_goals
    with_reducible refine Calls.mono (duptoP g _ 80 _ H3.out.dc (by decide)) ?_
    rintro e w4 ⟨r4, rfl, ⟨a4, b4⟩, s4, hd⟩
    have H4 := Lib.hid (H3.out.trans hd)
    clear hd
    go_wp2
    all_goals
      go_ret
      have := HN.out
      exact ⟨_, rfl, by omega, _, H4.out⟩
set_option maxRecDepth 100000 in
set_option maxHeartbeats 6400000 in
theorem dsize (g s : Nat) (n : Int) (W : World) (h : DC g s W) (hn : 1 ≤ n ∧ n ≤ 1048576) :
    Calls Try.prog 44 #[.pointer (some ⟨g, 0, none⟩), .int .i64 n] W (DPost g (fun r => 0 ≤ r ∧ r ≤ n + 1) W) := by
  have H := Lib.hid (DP.start h)
  obtain ⟨hn1, hn2⟩ := hn
  clear h
  go_enter Try.func44, Try.ntmps44
  go_wp2_with fail
  with_reducible refine Calls.mono (dfromP g s 1 1024 _ H.out.dc (by decide) (by decide)) ?_
  rintro e w1 ⟨r1, rfl, ⟨a1, b1⟩, s1, hd⟩
  have H1 := Lib.hid (H.out.trans hd)
  clear hd H
  go_wp2_with fail
  with_reducible refine Calls.mono (dfromP g _ 1 n _ H1.out.dc (by omega) (by omega)) ?_
  rintro e w2 ⟨r2, rfl, ⟨a2, b2⟩, s2, hd⟩
  have H2 := Lib.hid (H1.out.trans hd)
  clear hd H1
  go_wp2_with fail
  with_reducible refine Calls.mono (duptoP g _ 20 _ H2.out.dc (by decide)) ?_
  rintro e w3 ⟨r3, rfl, ⟨a3, b3⟩, s3, hd⟩
  have H3 := Lib.hid (H2.out.trans hd)
  clear hd H2
  have hm : (r1 : Int).tmod 64 = r1 % 64 := Int.tmod_eq_emod_of_nonneg (by omega)
  have hm1 : 0 ≤ r1 % 64 := by omega
  have hm2 : r1 % 64 < 64 := by omega
  go_wp2
  all_goals
    go_ret
    exact ⟨_, rfl, by omega, _, H3.out⟩
theorem DP.vp {g s sz b n : Nat} {W w w' : World} {cs : List Value} {v' : Value} (h : DP g s W w) (k : VPost sz b w n cs v' w') (hb : W.heap.size ≤ b) (hg : g < W.heap.size) : DP g s W w' := by
  obtain ⟨b', _, _, hs, ho, hl⟩ := k
  have hsz := h.2.1.size
  refine ⟨h.1.keep hs (ho g h.1.1 (by omega)), h.2.1.trans (hl g (by omega) (by omega)), fun i hi hn => (ho i (by omega) (by omega)).trans (h.2.2 i hi hn)⟩
theorem tyU8 : TyOK 5 23 1 1 (.int .u8 0) := ⟨Try.underlying23, by kernel_rfl, rfl, by decide, by decide⟩
set_option maxRecDepth 100000 in
set_option maxHeartbeats 6400000 in
theorem dbytes (g s : Nat) (W : World) (h : DC g s W) :
    Calls Try.prog 45 #[.pointer (some ⟨g, 0, none⟩)] W fun e w' => ∃ A n c, e = .returned (.slice A n c) ∧ ∃ s', DP g s' W w' := by
  have H := Lib.hid (DP.start h)
  have hgW : g < W.heap.size := h.1
  clear h
  go_enter Try.func45, Try.ntmps45
  go_wp2_with fail
  with_reducible refine Calls.mono (duptoP g s 40 _ H.out.dc (by decide)) ?_
  rintro e w1 ⟨r1, rfl, ⟨a1, b1⟩, s1, hd⟩
  have H1 := Lib.hid (H.out.trans hd)
  clear hd H
  obtain ⟨m, rfl⟩ := Int.eq_ofNat_of_zero_le a1
  have hm40 : m < 40 := by omega
  clear a1 b1
  go_wp2_with fail
  go_loopw [3, 6] (fun v3 v6 wr => ∃ (i b s' : Nat) (cs : List Value), i ≤ m ∧ v6 = .int .i64 i ∧ Hid (VZ 1 b wr v3 i cs) ∧ Hid (W.heap.size ≤ b ∧ DP g s' W wr)) (fun _ v6 _ => m - (intOf v6).toNat)
  case atStart => exact ⟨0, W.heap.size, s1, [], by omega, rfl, Lib.hid (vz_nil _ _ _), Lib.hid ⟨Nat.le_refl _, H1.out⟩⟩
  case round =>
    clear H1
    obtain ⟨i, b, s', cs, hi, rfl, HZ, HR⟩ := hrel
    obtain ⟨A3, c3, e3, -⟩ := HZ.out
    subst e3
    by_cases him : i < m
    · have himI : (i : Int) < (m : Int) := by omega
      have hi40 : i < 40 := by omega
      go_wp2_with fail
      with_reducible refine Calls.mono (dupto g s' 256 _ HR.out.2.dc (by decide) (by decide)) ?_
      rintro e w2 ⟨rfl, hd⟩
      have hv := bel_lt s' 256 (by decide)
      obtain ⟨v, hv0⟩ : ∃ v, bel s' 256 = v := ⟨_, rfl⟩
      rw [hv0] at hv ⊢
      have hR2 : DP g (nx s') W w2 := HR.out.2.trans hd
      have hgb : b ≠ g := by have := HR.out.1; omega
      have HZ2 : Hid (VZ 1 b w2 (.slice A3 i c3) i cs) := Lib.hid (HZ.out.keep hd.2.1.size (fun hb => hd.2.2 b hb hgb))
      have HR2 : Hid (W.heap.size ≤ b ∧ DP g (nx s') W w2) := Lib.hid ⟨HR.out.1, hR2⟩
      clear hd hv0 hR2 HZ HR
      go_wp2_with (at_builtin; refine app_vz tyU8 rfl (.tmp 8) (.tmp 12) rfl b _ i cs rfl (HZ2.out.below (alc0 _ _)) ⟨w2.heap.size, 0, none⟩ 1 1 [.int .u8 (v : Int)] rfl rfl ?_ ?_ (.inl (by decide)) (by omega) ?_)
      case refine_1 =>
        intro j u hu
        have hj : j = 0 := by
          have := (List.getElem?_eq_some_iff.1 hu).1
          simp at this
          exact this
        subst hj
        rw [addp]
        simp at hu
        subst hu
        simp
      case refine_2 =>
        intro u hu
        simp at hu
        subst hu
        rfl
      intro v9 w3 hz3
      have hR3 := (HR2.out.2.below (alc0 w2 _)).vp hz3 HR2.out.1 hgW
      obtain ⟨b', hb', hzb, -⟩ := hz3
      have HZ3 := Lib.hid hzb
      have HR3 : Hid (W.heap.size ≤ b' ∧ DP g (nx s') W w3) := Lib.hid ⟨hb'.elim (fun h => by rw [h]; exact HR2.out.1) (fun h => by simp at h; have := HR2.out.2.2.1.size; omega), hR3⟩
      clear hb' hzb hR3 HZ2 HR2
      go_wp2_with fail
      go_roundw
      case rel => exact ⟨i + 1, b', _, _, by omega, by go_num, HZ3, HR3⟩
      case measure => simp [intOf] <;> omega
    · obtain rfl : i = m := by omega
      go_wp2
      go_ret
      exact ⟨_, _, _, rfl, _, HR.out.2⟩
end Go.Proofs.Ytahggokeelgjdaa
