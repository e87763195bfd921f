/- The walk of StateRuns. -/
import Derived.Test.YtbmcgoodilomlaaStateN
import Derived.Laws.AppendOwnNone
import Derived.Deep.DeepCutAuto
namespace Go.Proofs.Ytbmcgoodilomlaa
open Go.RowKit
set_option linter.unusedVariables false
set_option linter.unusedSimpArgs false

theorem infoInt : (Try.prog.info? 3).map (fun i => (i.zero, i.size, i.bytes)) = some (some (.int .i64 0), 1, 8) := by kernel_rfl
theorem ints_of_row {w : World} {B E : Nat} {v : Value} {n : Nat} {l : List Int} (h : w.ownsRow B E 1 v n (l.map (Value.int .i64))) :
    ∃ a cap, v = .slice a n cap ∧ Ints .i64 w a n l := by
  have hl : l.length = n := by simpa using h.1
  rcases h.2 with ⟨rfl, rfl⟩ | ⟨g, cap, cur, hv, _, _, hc, hm, _⟩
  · exact ⟨none, 0, rfl, hl, .inl rfl⟩
  · refine ⟨_, cap, hv, hl, ?_⟩
    by_cases h0 : n = 0
    · exact .inl h0
    · have hb := h.lt g (by rw [hv]; rfl)
      refine .inr ⟨g, 0, rfl, hb.2, by unfold maxLen at hm; omega, fun i hi => ?_⟩
      have := h.cells (g := g) (by rw [hv]; rfl) i (.int .i64 (l.getD i 0)) (by simp [List.getD, List.getElem?_eq_getElem (show i < l.length by omega)])
      have hadd : (⟨g, 0, none⟩ : Addr).add i = ⟨g, i, none⟩ := by unfold Addr.add; split <;> simp_all
      rw [hadd] at this
      simpa using this
def xR (zs : List Int) : List Int := zs.map fun z => z % 4
theorem xR_snoc {zs : List Int} {k : Nat} (h : k < zs.length) : xR (zs.take (k + 1)) = xR (zs.take k) ++ [zs.getD k 0 % 4] := by
  unfold xR
  rw [List.take_succ_eq_append_getElem h, List.map_append]
  simp only [List.map_cons, List.map_nil, List.getD, List.getElem?_eq_getElem h, Option.getD_some]
theorem xR_wf (zs : List Int) : ∀ x ∈ xR zs, (Lit.int .i64 x).wf = true := by
  intro x hx
  obtain ⟨z, _, rfl⟩ := List.mem_map.1 hx
  exact wf_small _ ⟨Int.emod_nonneg _ (by decide), by have := Int.emod_lt_of_pos z (b := 4) (by decide); omega⟩
theorem run_step (t x : Int) (r : List Int) (h : 0 < nxt t x) : runT t (x :: r) = runT (nxt t x) r ∧ runN t (x :: r) = runN (nxt t x) r + 1 := by
  rw [runT, runN, if_pos h, if_pos h]; exact ⟨rfl, rfl⟩
theorem run_stop (t x : Int) (r : List Int) (h : nxt t x = 0) : runT t (x :: r) = t ∧ runN t (x :: r) = 0 := by
  rw [runT, runN, if_neg (by omega), if_neg (by omega)]; exact ⟨rfl, rfl⟩
theorem nxt_same (t : Int) (h1 : 1 ≤ t) (h2 : t ≤ 3) : nxt t t = t % 3 + 1 := by
  have : t = 1 ∨ t = 2 ∨ t = 3 := by omega
  rcases this with rfl | rfl | rfl <;> rfl
theorem nxt_other (t x : Int) (h : ¬ x = t) : nxt t x = 0 := nxt_zero t x (by omega) (by omega) (by omega)
theorem nxt_four (t x : Int) (h : 3 < t) : nxt t x = 0 := nxt_zero t x (by omega) (by omega) (by omega)
/-- What the second loop keeps: the state t behind k of the events. -/
def RunAt (s t : Int) (X : List Int) (k : Nat) : Prop := 1 ≤ t ∧ t ≤ 4 ∧ runT s X = runT t (X.drop k) ∧ runN s X = k + runN t (X.drop k)
theorem RunAt.step {s t x : Int} {X : List Int} {k : Nat} (h : RunAt s t X k) (hk : k < X.length) (hx : X.getD k 0 = t) (h3 : t ≤ 3) : RunAt s (t % 3 + 1) X (k + 1) := by
  obtain ⟨a, b, c, d⟩ := h
  rw [drop_cons X k hk, hx] at c d
  have hn := nxt_same t a h3
  obtain ⟨e1, e2⟩ := run_step t t (X.drop (k + 1)) (by rw [hn]; omega)
  rw [e1, hn] at c
  rw [e2, hn] at d
  exact ⟨by omega, by omega, c, by omega⟩
theorem RunAt.stop {s t : Int} {X : List Int} {k : Nat} (h : RunAt s t X k) (hk : X.length ≤ k ∨ 3 < t ∨ (k < X.length ∧ ¬ X.getD k 0 = t)) : runT s X = t ∧ runN s X = k := by
  obtain ⟨a, b, c, d⟩ := h
  by_cases hl : k < X.length
  · rw [drop_cons X k hl] at c d
    have hz : nxt t (X.getD k 0) = 0 := by
      rcases hk with h | h | ⟨_, h⟩
      · omega
      · exact nxt_four _ _ h
      · exact nxt_other _ _ h
    obtain ⟨e1, e2⟩ := run_stop t _ (X.drop (k + 1)) hz
    rw [e1] at c; rw [e2] at d
    exact ⟨c, by omega⟩
  · rw [List.drop_of_length_le (by omega)] at c d
    simp only [runT, runN] at c d
    exact ⟨c, by omega⟩
set_option maxRecDepth 100000 in
set_option maxHeartbeats 3200000 in
theorem walkStateRuns (a0 : Int) (a1 : Option Addr) (len1 cap1 : Nat) (z1 : List Int) (w : World) (w0 : (Lit.int .i64 a0).wf = true) (w1 : IsRow .i64 w a1 len1 cap1 z1) :
    Calls Try.prog 8 #[.int .i64 a0, .slice a1 len1 cap1] w fun e w' => e = .returned (.bool true) ∧ Below w.heap.size w w' := by
  obtain ⟨i0, hi, hz0, hz1, hz2⟩ := info_parts infoInt
  have HI := Lib.hid w1.ints
  clear w1
  generalize z1.take len1 = zs at *
  obtain ⟨s, hs⟩ : ∃ s, a0 % 4 + 1 = s := ⟨_, rfl⟩
  have ea := and3 a0
  have r0 : 0 ≤ a0 % 4 := Int.emod_nonneg _ (by decide)
  have r1 : a0 % 4 < 4 := Int.emod_lt_of_pos _ (by decide)
  generalize a0 % 4 = q at *
  obtain rfl : q = s - 1 := by omega
  have r2 : 1 ≤ s := by omega
  have r3 : s ≤ 4 := by omega
  have hse : s - 1 + 1 = s := by omega
  clear hs r0 r1
  obtain ⟨n, hn1, hn2, hn3⟩ : ∃ n : Nat, n ≤ len1 ∧ n ≤ 20 ∧ (n < len1 → n = 20) := ⟨min len1 20, by omega, by omega, by omega⟩
  have hlen : zs.length = len1 := HI.out.1
  have HLen := Lib.hid hlen; clear hlen
  go_enter Try.func8, Try.ntmps8
  go_wp2_with fail
  go_loopw [6, 7] (fun v i wr => ∃ k : Nat, k ≤ n ∧ i = .int .i64 k ∧ wr.ownsRow w.heap.size 3 1 v k ((xR (zs.take k)).map (Value.int .i64)) ∧ Below w.heap.size w wr) (fun _ i _ => n - (intOf i).toNat)
  case atStart => exact ⟨0, by omega, rfl, World.ownsRow_made w #[] 0 (Nat.le_refl _) (by unfold maxLen; omega) (by simp), alc0 _ _⟩
  case round =>
    obtain ⟨k, hk, rfl, hown, hbel⟩ := hrel
    have hbs := hbel.size
    by_cases hlt : k < n
    · obtain ⟨_, hin⟩ := HI.out.below hbel
      rcases hin with h0 | ⟨b, off, rfl, hbl, hmx, hc⟩
      · exfalso; omega
      · have hck := hc k (by omega)
        have hsn := xR_snoc (zs := zs) (k := k) (by have := HLen.out; omega)
        have eb := and3 (zs.getD k 0)
        have t0 : 0 ≤ zs.getD k 0 % 4 := Int.emod_nonneg _ (by decide)
        have t1 : zs.getD k 0 % 4 < 4 := Int.emod_lt_of_pos _ (by decide)
        clear hc
        generalize zs.getD k 0 = x at *
        have HS := Lib.hid hsn; clear hsn
        have l1 : (k : Int) < len1 := by omega
        have l2 : (k : Int) < 20 := by omega
        go_wp2_with (at_builtin; refine wpList_append_own _ rfl _ _ 22 rfl w.heap.size 3 i0 (.int .i64 0) 1 8 Try.underlying22 hi hz0 hz1 hz2 rfl (by decide) _ _ _ rfl (hown.alloc _) ⟨wr.heap.size, 0, none⟩ 1 1 [.int .i64 (x % 4)] rfl rfl ?c1 ?c2 ?c3 ?c4 ?c5 ?_)
        case c1 => exact cell_one_new _ _ _
        case c2 => simp [Value.oneCell']
        case c3 => unfold maxLen; omega
        case c4 => omega
        case c5 => simp; omega
        intro v' w2 hown1 hgrow _
        have hb1 : Below w.heap.size w w2 := (hbel.alloc hbs _).grown hgrow (by simp; omega) (fun j hj => (hown.lt j hj).1)
        clear hgrow hown
        go_wp2
        go_roundw
        case rel => exact ⟨k + 1, by omega, by go_num, by rw [HS.out]; simpa using hown1, hb1⟩
        case measure => simp [intOf]; omega
    · obtain rfl : k = n := by omega
      obtain ⟨wo, rfl⟩ : ∃ wo : World, wo = wr := ⟨_, rfl⟩
      obtain ⟨a, cap, rfl, hx⟩ := ints_of_row hown
      clear hown
      have HS : Hid ((Lit.int .i64 s).wf = true ∧ ∀ x ∈ xR (zs.take k), (Lit.int .i64 x).wf = true) := Lib.hid ⟨wf_small s ⟨by omega, by omega⟩, xR_wf _⟩
      have HX := Lib.hid hx; clear hx
      generalize xR (zs.take k) = X at *
      have hstop : ¬ ((k : Int) < len1) ∨ ((k : Int) < len1 ∧ ¬ ((k : Int) < 20)) := by omega
      have HB := Lib.hid hbel
      have HXL := Lib.hid HX.out.1
      clear hbel hbs
      obtain ⟨k0, rfl⟩ : ∃ k0, k0 = k := ⟨_, rfl⟩
      rcases hstop with hs | ⟨hs, hs2⟩
      all_goals
        go_wp2_with fail
        go_loopw [8, 9] (fun v8 v9 wr => ∃ (t : Int) (j : Nat), j ≤ k0 ∧ v8 = .int .i64 t ∧ v9 = .int .i64 j ∧ Hid (RunAt s t X j) ∧ Hid (Ints .i64 wr a k0 X) ∧ Hid (Below w.heap.size w wr)) (fun _ v9 _ => k0 - (intOf v9).toNat)
        case atStart => exact ⟨s, 0, by omega, rfl, rfl, Lib.hid ⟨by omega, by omega, rfl, by simp⟩, HX, HB⟩
        case round =>
          clear HX HB
          obtain ⟨t, j, hj, rfl, rfl, HR, HX2, HB⟩ := hrel
          by_cases hlt : j < k0
          · have hl1 : (j : Int) < k0 := by omega
            by_cases ht : t ≤ 3
            · obtain ⟨_, h0 | ⟨b, off, rfl, hbl, hmx, hc⟩⟩ := HX2.out
              · exfalso; omega
              · have hcell := hc j hlt
                have t1 := HR.out.1
                clear hc
                by_cases hx : X.getD j 0 = t
                · have HR2 := Lib.hid (HR.out.step (x := t) (by rw [HXL.out]; exact hlt) hx ht)
                  rw [hx] at hcell
                  clear hx HR
                  go_wp2_with fail
                  go_roundw
                  case rel => exact ⟨_, j + 1, by omega, by go_num, by go_num, HR2, HX2, HB⟩
                  case measure => simp [intOf]; omega
                · have hbq : (X.getD j 0 == t) = false := by simpa using hx
                  have HE := Lib.hid (HR.out.stop (.inr (.inr ⟨by rw [HXL.out]; exact hlt, hx⟩)))
                  clear hx HR
                  obtain ⟨x, hxx⟩ : ∃ x, X.getD j 0 = x := ⟨_, rfl⟩
                  rw [hxx] at hcell hbq
                  clear hxx
                  go_wp2_with fail
                  refine (run_is s _ k0 _ X _ HX2.out (by omega) HS.out.1 HS.out.2).mono ?_
                  rintro e w2 ⟨rfl, hb⟩
                  rw [HE.out.1, HE.out.2]
                  have HB2 := Lib.hid (HB.out.trans (hb.mono HB.out.size))
                  clear hb HB HX2
                  go_wp2_with fail
                  refine (s19awake _).mono ?_
                  rintro e w3 ⟨rfl, hb⟩
                  have HB3 := Lib.hid (HB2.out.trans (hb.mono HB2.out.size))
                  clear hb HB2
                  go_wp2
                  go_ret
                  exact ⟨rfl, HB3.out⟩
            · have HE := Lib.hid (HR.out.stop (.inr (.inl (by omega))))
              clear HR
              go_wp2_with fail
              refine (run_is s _ k0 _ X _ HX2.out (by omega) HS.out.1 HS.out.2).mono ?_
              rintro e w2 ⟨rfl, hb⟩
              rw [HE.out.1, HE.out.2]
              have HB2 := Lib.hid (HB.out.trans (hb.mono HB.out.size))
              clear hb HB HX2
              go_wp2_with fail
              refine (s19awake _).mono ?_
              rintro e w3 ⟨rfl, hb⟩
              have HB3 := Lib.hid (HB2.out.trans (hb.mono HB2.out.size))
              clear hb HB2
              go_wp2
              go_ret
              exact ⟨rfl, HB3.out⟩
          · obtain rfl : j = k0 := by omega
            have HE := Lib.hid (HR.out.stop (.inl (by rw [HXL.out]; omega)))
            clear HR
            go_wp2_with fail
            refine (run_is s _ j _ X _ HX2.out (by omega) HS.out.1 HS.out.2).mono ?_
            rintro e w2 ⟨rfl, hb⟩
            rw [HE.out.1, HE.out.2]
            have HB2 := Lib.hid (HB.out.trans (hb.mono HB.out.size))
            clear hb HB HX2
            go_wp2_with fail
            refine (s19awake _).mono ?_
            rintro e w3 ⟨rfl, hb⟩
            have HB3 := Lib.hid (HB2.out.trans (hb.mono HB2.out.size))
            clear hb HB2
            go_wp2
            go_ret
            exact ⟨rfl, HB3.out⟩
end Go.Proofs.Ytbmcgoodilomlaa
