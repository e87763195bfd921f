/- The walk of PickOf. -/
import Derived.Test.YtlajhhecipabaaaPickB
import Derived.Deep.AppendLies
import Derived.Deep.QuietTactic
import Derived.BigQuiet
namespace Go.Proofs.Ytlajhhecipabaaa
open Go.RowKit
set_option linter.unusedVariables false
set_option linter.unusedSimpArgs false

/-- Nothing has changed below a world's end but block g. -/
def Kept (g : Nat) (a b : World) : Prop := a.heap.size ≤ b.heap.size ∧ ∀ i, i < a.heap.size → i ≠ g → b.heap[i]? = a.heap[i]?
theorem Kept.refl (g : Nat) (a : World) : Kept g a a := ⟨Nat.le_refl _, fun _ _ _ => rfl⟩
theorem Kept.alloc {g : Nat} {a b : World} (h : Kept g a b) (o : Obj) : Kept g a (b.alloc o) :=
  ⟨Nat.le_trans h.1 (by simp), fun i hi hne => (Below.heap_alloc b o i (Nat.lt_of_lt_of_le hi h.1)).trans (h.2 i hi hne)⟩
theorem Kept.grown {g h' : Nat} {a b c : World} (h : Kept g a b) (hg : b.grownBy c (some h')) (hh : h' = g ∨ a.heap.size ≤ h') : Kept g a c :=
  ⟨Nat.le_trans h.1 hg.size, fun i hi hne => (hg.block i (Nat.lt_of_lt_of_le hi h.1) (fun e => by
    have e' : i = h' := by injection e
    rcases hh with hh | hh
    · exact hne (e'.trans hh)
    · omega)).trans (h.2 i hi hne)⟩
theorem Kept.ints {g : Nat} {a b : World} {k : IntKind} {ad : Option Addr} {n : Nat} {zs : List Int} (h : Kept g a b) (hi : Ints k a ad n zs) (hne : ∀ bl off, ad = some ⟨bl, off, none⟩ → bl ≠ g) : Ints k b ad n zs := by
  obtain ⟨h1, h2⟩ := hi
  refine ⟨h1, ?_⟩
  rcases h2 with h2 | ⟨bl, off, e, hlt, hm, hc⟩
  · exact .inl h2
  · exact .inr ⟨bl, off, e, Nat.lt_of_lt_of_le hlt h.1, hm, fun i hi => (World.cell?_of_block (h.2 bl hlt (hne bl off e))).trans (hc i hi)⟩

theorem bdn {B : Nat} {a b : World} (h : Below B a b) (n : Nat) : Below B a (b.drewN n) := ⟨h.os, h.tape, h.output, h.size, h.block⟩

def LOwn (g0 B top : Nat) (v : Value) (wr : World) (l : List Int) : Prop :=
  ∃ g cap, v = .slice (some ⟨g, 0, none⟩) l.length cap ∧ wr.ownsRow B 3 1 v l.length (l.map (Value.int .i64)) ∧ (g = g0 ∨ top ≤ g)
theorem LOwn.ints {g0 B top : Nat} {v : Value} {wr : World} {l : List Int} (h : LOwn g0 B top v wr l) : ∃ a cap, v = .slice a l.length cap ∧ Ints .i64 wr a l.length l := by
  obtain ⟨g, cap, rfl, hown, _⟩ := h
  obtain ⟨a, c, e, hi⟩ := ints_of_row hown
  injection e with e1 e2 e3
  subst e1 e3
  exact ⟨_, _, rfl, hi⟩

theorem may_own (a : Option Addr) (len cap : Nat) (zs : List Int) (w : World) (h : Ints .i64 w a len zs) :
    Calls Try.prog 50 #[.slice a len cap] w fun e w' => ∃ a2 cap2, e = .returned (.slice a2 (mayL zs 15).length cap2) ∧ Ints .i64 w' a2 (mayL zs 15).length (mayL zs 15) ∧ (∀ bl off, a2 = some ⟨bl, off, none⟩ → w.heap.size ≤ bl) ∧ Below w.heap.size w w' :=
  (may_any a len cap zs w h).mono fun _ _ ⟨v, he, hr, hb⟩ => by
    obtain ⟨a2, cap2, rfl, hi⟩ := ints_of_row hr
    refine ⟨a2, cap2, he, hi, ?_, hb⟩
    intro bl off e
    subst e
    rcases hr.2 with ⟨e, _⟩ | ⟨g, c, cur, e, hg, _⟩
    · cases e
    · injection e with e1
      injection e1 with e1
      injection e1 with e1
      subst e1
      exact hg

theorem none_in (X : List Int) (r : Nat) (t : Int) (ht : t = (r : Int) + 1) (h : (!decide (t ∈ X)) = true) : mayL X (r + 1) = mayL X r ++ [t] := by
  subst ht
  rw [mayL, if_neg (by simpa using h)]
theorem none_out (X : List Int) (r : Nat) (t : Int) (ht : t = (r : Int) + 1) (h : (!decide (t ∈ X)) = false) : mayL X (r + 1) = mayL X r := by
  subst ht
  rw [mayL, if_pos (by simpa using h)]

set_option maxRecDepth 100000 in
set_option maxHeartbeats 3200000 in
theorem walkPickOf (a0 : Int) (a1 : Option Addr) (len1 cap1 : Nat) (z1 : List Int) (w : World) (w0 : (Lit.int .i64 a0).wf = true) (w1 : IsRow .i64 w a1 len1 cap1 z1) :
    Calls Try.prog 14 #[.int .i64 a0, .slice a1 len1 cap1] w fun e w' => e = .returned (.bool true) ∧ Below w.heap.size w w' := by
  obtain ⟨i0, hi, hz0, hz1, hz2⟩ := info_parts infoInt
  have HI := Lib.hid w1.ints
  clear w1
  generalize z1.take len1 = zs at *
  have ba := bounds_i64 w0
  clear w0
  obtain ⟨n, hn1, hn2, hn3⟩ : ∃ n : Nat, n ≤ len1 ∧ n ≤ 20 ∧ (n < len1 → n = 20) := ⟨min len1 20, by omega, by omega, by omega⟩
  have hlen : zs.length = len1 := HI.out.1
  have HLen := Lib.hid hlen; clear hlen
  go_enter Try.func14, Try.ntmps14
  go_wp2_with fail
  go_loopw [5, 6] (fun v i wr => ∃ k : Nat, k ≤ n ∧ i = .int .i64 k ∧ wr.ownsRow w.heap.size 3 1 v k ((xL (zs.take k)).map (Value.int .i64)) ∧ Below w.heap.size w wr) (fun _ i _ => n - (intOf i).toNat)
  case atStart => exact ⟨0, by omega, rfl, World.ownsRow_made w #[] 0 (Nat.le_refl _) (by unfold maxLen; omega) (by simp), alc0 _ _⟩
  case round =>
    obtain ⟨k, hk, rfl, hown, hbel⟩ := hrel
    have hbs := hbel.size
    by_cases hlt : k < n
    · obtain ⟨_, hin⟩ := HI.out.below hbel
      rcases hin with h0 | ⟨b, off, rfl, hbl, hmx, hc⟩
      · exfalso; omega
      · have hck := hc k (by omega)
        have hsn := xL_snoc (zs := zs) (k := k) (by have := HLen.out; omega)
        have ea := and31 (zs.getD k 0)
        have r0 : 0 ≤ zs.getD k 0 % 32 := Int.emod_nonneg _ (by decide)
        have r1 : zs.getD k 0 % 32 < 32 := Int.emod_lt_of_pos _ (by decide)
        clear hc
        generalize zs.getD k 0 = x at *
        have HS := Lib.hid hsn; clear hsn
        have l1 : (k : Int) < len1 := by omega
        have l2 : (k : Int) < 20 := by omega
        go_wp2_with (at_builtin; refine wpList_append_own _ rfl _ _ 45 rfl w.heap.size 3 i0 (.int .i64 0) 1 8 Try.underlying45 hi hz0 hz1 hz2 rfl (by decide) _ _ _ rfl (hown.alloc _) ⟨wr.heap.size, 0, none⟩ 1 1 [.int .i64 (x % 32 - 4)] rfl rfl ?c1 ?c2 ?c3 ?c4 ?c5 ?_)
        case c1 => exact cell_one_new _ _ _
        case c2 => simp [Value.oneCell']
        case c3 => unfold maxLen; omega
        case c4 => omega
        case c5 => simp; omega
        intro v' w2 hown1 hgrow _
        have hb1 : Below w.heap.size w w2 := (hbel.alloc hbs _).grown hgrow (by simp; omega) (fun j hj => (hown.lt j hj).1)
        clear hgrow hown
        go_wp2
        go_roundw
        case rel => exact ⟨k + 1, by omega, by go_num, by rw [HS.out]; simpa using hown1, hb1⟩
        case measure => simp [intOf]; omega
    · obtain rfl : k = n := by omega
      obtain ⟨wo, rfl⟩ : ∃ wo : World, wo = wr := ⟨_, rfl⟩
      obtain ⟨a, cap, rfl, hx⟩ := ints_of_row hown
      clear hown
      generalize xL (zs.take k) = X at *
      have HX := Lib.hid hx; clear hx
      have hstop : ¬ ((k : Int) < len1) ∨ ((k : Int) < len1 ∧ ¬ ((k : Int) < 20)) := by omega
      have hMl := mayL_le X 15
      rcases hstop with hs | ⟨hs, hs2⟩
      all_goals
        go_wp2_with fail
        refine (may_own _ _ _ _ _ (HX.out.below (alc0 _ _))).mono ?_
        rintro e w2 ⟨a2, cap2, rfl, hM, hMb, hb2⟩
        have HM := Lib.hid hM; clear hM
        have HMB := Lib.hid hMb; clear hMb
        have hz2' : wo.heap.size < w2.heap.size := Nat.lt_of_lt_of_le (by simp) hb2.size
        have hB2 : Below w.heap.size w w2 := (alc hbel _).trans (hb2.mono (by simp; omega))
        have HX2 : Hid (Ints .i64 w2 a k X) := Lib.hid ((HX.out.below (alc0 _ _)).below hb2)
        have hblk : w2.heap[wo.heap.size]? = some (.cells #[] 3 (0, 0)) := (hb2.block _ (by simp)).trans (heap_alloc_new wo _)
        have hown0 : w2.ownsRow w.heap.size 3 1 (.slice (some ⟨wo.heap.size, 0, none⟩) 0 0) 0 (([] : List Int).map (Value.int .i64)) :=
          ⟨by simp, .inr ⟨wo.heap.size, 0, #[], rfl, hbs, hblk, Nat.le_refl _, by unfold maxLen; omega, rfl, rfl⟩⟩
        have hB3 : Below wo.heap.size wo w2 := thn (alc0 _ _) hb2
        have HML := Lib.hid (none_in X)
        have HMO := Lib.hid (none_out X)
        clear hblk
        go_wp2_with fail
        go_loopw [7, 9] (fun v t wr => ∃ r : Nat, r ≤ 15 ∧ t = .int .i64 ((r : Int) + 1) ∧ Hid (LOwn wo.heap.size w.heap.size w2.heap.size v wr (mayL X r)) ∧ Hid (Kept wo.heap.size w2 wr) ∧ Below wo.heap.size wo wr ∧ w2.heap.size ≤ wr.heap.size) (fun _ t _ => 16 - (intOf t).toNat)
        case atStart => exact ⟨0, by omega, rfl, Lib.hid ⟨_, _, rfl, hown0, .inl rfl⟩, Lib.hid (Kept.refl _ _), hB3, Nat.le_refl _⟩
        case round =>
          obtain ⟨r, hr, rfl, HL, HK, hBt, hzt⟩ := hrel
          have hXt : Ints .i64 wr a k X := HX.out.below hBt
          have HXT := Lib.hid hXt; clear hXt
          have hrl := mayL_le X r
          by_cases hlt2 : r < 15
          · obtain ⟨g, cap3, rfl, hown, hg⟩ := HL.out
            go_wp2_with (first | (go_at_call 51; refine (none_any _ _ _ _ _ _ HXT.out).mono ?_; rintro e w' ⟨rfl, rfl⟩) | (at_builtin; refine wpList_append_lies _ rfl _ _ 45 rfl w.heap.size 3 i0 (.int .i64 0) 1 8 Try.underlying45 hi hz0 hz1 hz2 rfl (by decide) _ _ _ rfl (hown.alloc _) ⟨wr.heap.size, 0, none⟩ 1 1 [.int .i64 ((r : Int) + 1)] rfl rfl ?c1 ?c2 (by decide) ?c3 ?c4 ?c5 _ rfl ?_))
            case c1 => exact cell_one_new _ _ _
            case c2 => simp [Value.oneCell']
            case c3 => unfold maxLen; omega
            case c4 => omega
            case c5 => simp; omega
            · intro g2 cap2' w3 hown1 hgrow hg2 hlt3
              have hn := HML.out r _ rfl (by assumption)
              have HN := Lib.hid hn; clear hn
              have hK3 : Kept wo.heap.size w2 w3 := (HK.out.alloc _).grown hgrow hg
              have hB5 : Below wo.heap.size wo w3 := (alc hBt _).grown hgrow (by simp; omega) (fun j hj => by
                have : j = g := by simpa [Value.ownBlock] using hj.symm
                omega)
              have hg3 : g2 = wo.heap.size ∨ w2.heap.size ≤ g2 := by
                rcases hg2 with h | h
                · have : g = g2 := by simpa [Value.ownBlock] using h
                  omega
                · right; omega
              have hz5 : w2.heap.size ≤ w3.heap.size := hK3.1
              clear hgrow hown
              go_wp2_with fail
              go_roundw
              case rel => exact ⟨r + 1, by omega, by go_num, Lib.hid ⟨g2, cap2', by rw [HN.out]; simp, by rw [HN.out]; simpa using hown1, hg3⟩, Lib.hid hK3, hB5, hz5⟩
              case measure => simp [intOf]; omega
            · have hn := HMO.out r _ rfl (by assumption)
              have HN := Lib.hid hn; clear hn
              go_roundw
              case rel => exact ⟨r + 1, by omega, by go_num, Lib.hid (by rw [HN.out]; exact ⟨g, cap3, rfl, hown, hg⟩), HK, hBt, hzt⟩
              case measure => simp [intOf]; omega
          · obtain rfl : r = 15 := by omega
            rw [show (((15 : Nat) : Int) + 1) = 16 from rfl]
            obtain ⟨al, capl, rfl, hLi⟩ := HL.out.ints
            have hMt := HK.out.ints HM.out (fun bl off e => by have := HMB.out bl off e; simp at this; omega)
            have HLI := Lib.hid hLi
            have HMT := Lib.hid hMt
            have hof : ofP a0 X = if mayL X 15 = [] then 0 else (mayL X 15).getD (a0 % ((mayL X 15).length : Int)).toNat 0 := rfl
            have HOF := Lib.hid hof
            have HOA := Lib.hid (fun (W : World) (h : Ints .i64 W a k X) => of_any a0 a k cap X W h ba)
            generalize ofP a0 X = F at HOF HOA
            clear hLi hMt HL HK hof HML HMO HM HX2 hown0
            generalize mayL X 15 = M at *
            have hBw : Below w.heap.size w wr := hbel.trans (hBt.mono hbs)
            clear hBt hzt hB3 hB2 hb2 hbel
            obtain ⟨wp, rfl⟩ : ∃ wp : World, wp = wr := ⟨_, rfl⟩
            go_wp2_with fail
            go_loopw [10] (fun i wr => ∃ j : Nat, j ≤ M.length ∧ i = .int .i64 j ∧ Hid (Ints .i64 wr al M.length M) ∧ Hid (Ints .i64 wr a2 M.length M) ∧ Hid (Ints .i64 wr a k X) ∧ Below w.heap.size w wr) (fun i _ => M.length - (intOf i).toNat)
            case atStart => exact ⟨0, by omega, rfl, HLI, HMT, HXT, hBw⟩
            case round =>
              clear HLI HMT HXT hBw
              obtain ⟨j, hj, rfl, HLI, HMT, HXT, hBw⟩ := hrel
              by_cases hlt3 : j < M.length
              · obtain ⟨_, h1 | ⟨b1, o1, rfl, _, m1, c1⟩⟩ := HLI.out
                · exfalso; omega
                · obtain ⟨_, h2 | ⟨b2, o2, rfl, _, m2, c2⟩⟩ := HMT.out
                  · exfalso; omega
                  · have k1 := c1 j hlt3
                    have k2 := c2 j hlt3
                    clear c1 c2
                    generalize M.getD j 0 = x at *
                    have l3 : (j : Int) < (M.length : Int) := by omega
                    go_wp2_with fail
                    go_quiet (fail)
                    go_wp2_with fail
                    go_roundw
                    case rel => exact ⟨j + 1, by omega, by go_num, HLI, HMT, HXT, bdn hBw _⟩
                    case measure => simp [intOf]; omega
              · obtain rfl : j = M.length := by omega
                go_wp2_with fail
                refine (HOA.out _ HXT.out).mono ?_
                rintro e v1 ⟨rfl, hb1⟩
                have hLI := HLI.out.below hb1
                have B1 : Below w.heap.size w v1 := hBw.trans (hb1.mono hBw.size)
                by_cases h0 : M.length = 0
                · have hl : M = [] := List.length_eq_zero_iff.1 h0
                  have hF : F = 0 := by rw [HOF.out, if_pos hl]
                  subst hF
                  have h00 : ((M.length : Int) == 0) = true := by simp [hl]
                  clear h0 hl
                  go_wp2_with fail
                  refine (pawake_any _).mono ?_
                  rintro e v2 ⟨rfl, hb2⟩
                  go_wp2_with fail
                  go_ret
                  exact ⟨rfl, B1.trans (hb2.mono B1.size)⟩
                · have hne : M ≠ [] := by intro e; simp [e] at h0
                  have h00 : ((M.length : Int) == 0) = false := by rw [beq_eq_false_iff_ne]; omega
                  have hn0 : ¬ (M.length : Int) = 0 := by omega
                  obtain ⟨q, r, hq, hr, r0, r1, hqr⟩ := tmod_cases a0 (M.length : Int) (by omega)
                  have hF : F = M.getD r.toNat 0 := by rw [HOF.out, if_neg hne, hr]
                  obtain ⟨_, h1 | ⟨b1, o1, rfl, _, m1, c1⟩⟩ := hLI
                  · exfalso; omega
                  · have hkF := c1 r.toNat (by omega)
                    rw [← hF] at hkF
                    have HKF := Lib.hid hkF
                    have hblt : b1 < v1.heap.size := World.block_lt_of_cell? v1 _ hkF
                    clear c1 hF hne HOF
                    rcases hqr with ⟨q0, q1⟩ | ⟨q0, q1⟩
                    · subst q1
                      go_wp2_with fail
                      refine (pawake_any _).mono ?_
                      rintro e v2 ⟨rfl, hb2⟩
                      have hk2 : v2.cell? ⟨b1, o1 + q.toNat, none⟩ = some (.int .i64 F) := by rw [hb2.cell hblt]; exact HKF.out
                      go_wp2_with fail
                      go_ret
                      exact ⟨ret_bool (by simp), B1.trans (hb2.mono B1.size)⟩
                    · obtain rfl : r = q + M.length := q1.symm
                      go_wp2_with fail
                      refine (pawake_any _).mono ?_
                      rintro e v2 ⟨rfl, hb2⟩
                      have hk2 : v2.cell? ⟨b1, o1 + (q + (M.length : Int)).toNat, none⟩ = some (.int .i64 F) := by rw [hb2.cell hblt]; exact HKF.out
                      go_wp2_with fail
                      go_ret
                      exact ⟨ret_bool (by simp), B1.trans (hb2.mono B1.size)⟩
end Go.Proofs.Ytlajhhecipabaaa
