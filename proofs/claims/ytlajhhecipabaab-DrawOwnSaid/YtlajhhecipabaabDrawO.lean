/- The walk of DrawOwn. -/
import Derived.Test.YtlajhhecipabaabDrawN
import Derived.Laws.AppendOwnNone
import Derived.Deep.DeepCutAuto
namespace Go.Proofs.Ytlajhhecipabaab
open Go.RowKit
set_option linter.unusedVariables false
set_option linter.unusedSimpArgs false

theorem infoInt : (Try.prog.info? 3).map (fun i => (i.zero, i.size, i.bytes)) = some (some (.int .i64 0), 1, 8) := by kernel_rfl

/-- A row of m cells that may be written. -/
def Wr (g m : Nat) (w : World) : Prop := g < w.heap.size ∧ ∀ i, i < m → w.frozen? ⟨g, i, none⟩ = false ∧ ∃ v, w.cell? ⟨g, i, none⟩ = some v
theorem Wr.keep {g m : Nat} {a b : World} (h : Wr g m a) (hb : Below a.heap.size a b) : Wr g m b :=
  ⟨Nat.lt_of_lt_of_le h.1 hb.size, fun i hi => by
    obtain ⟨h1, v, h2⟩ := h.2 i hi
    exact ⟨by rw [hb.frozen h.1]; exact h1, v, by rw [hb.cell h.1]; exact h2⟩⟩
theorem Wr.set_ {g m j : Nat} {a : World} {u : Value} (h : Wr g m a) (hj : j < m) : Wr g m (a.setCell ⟨g, j, none⟩ u) :=
  ⟨by rw [size_set]; exact h.1, fun i hi => by
    obtain ⟨h1, v, h2⟩ := h.2 i hi
    obtain ⟨_, v', h2'⟩ := h.2 j hj
    refine ⟨by simp [h1], ?_⟩
    by_cases e : i = j
    · subst e; exact ⟨u, World.cell?_setCell_same _ _ _ h2⟩
    · exact ⟨v, by rw [World.cell?_setCell_other _ _ _ _ (by intro x; injection x with _ x; omega)]; exact h2⟩⟩

theorem own_wr {w : World} {B E m : Nat} {v : Value} {l : List Value} (h : w.ownsRow B E 1 v m l) : ∃ A c, v = .slice A m c ∧ (m = 0 ∨ ∃ g, A = some ⟨g, 0, none⟩ ∧ B ≤ g ∧ Wr g m w) := by
  rcases h.2 with ⟨rfl, rfl⟩ | ⟨g, cap, cur, rfl, hg, hh, hc, hm, hcur, _⟩
  · exact ⟨none, 0, rfl, .inl rfl⟩
  · refine ⟨_, cap, rfl, .inr ⟨g, rfl, hg, (h.lt g rfl).2, fun i hi => ⟨by simp [World.frozen?, hh], ?_⟩⟩⟩
    have hsz : i < cur.size := by omega
    exact ⟨cur[i], by rw [cell_of_row w g i cur _ (0, 0) hh]; exact Array.getElem?_eq_getElem hsz⟩

theorem ints_of_row {w : World} {B E : Nat} {v : Value} {n : Nat} {l : List Int} (h : w.ownsRow B E 1 v n (l.map (Value.int .i64))) :
    ∃ a cap, v = .slice a n cap ∧ Ints .i64 w a n l := by
  have hl : l.length = n := by simpa using h.1
  rcases h.2 with ⟨rfl, rfl⟩ | ⟨g, cap, cur, hv, _, _, hc, hm, _⟩
  · exact ⟨none, 0, rfl, hl, .inl rfl⟩
  · refine ⟨_, cap, hv, hl, ?_⟩
    by_cases h0 : n = 0
    · exact .inl h0
    · have hb := h.lt g (by rw [hv]; rfl)
      refine .inr ⟨g, 0, rfl, hb.2, by unfold maxLen at hm; omega, fun i hi => ?_⟩
      have := h.cells (g := g) (by rw [hv]; rfl) i (.int .i64 (l.getD i 0)) (by simp [List.getD, List.getElem?_eq_getElem (show i < l.length by omega)])
      have hadd : (⟨g, 0, none⟩ : Addr).add i = ⟨g, i, none⟩ := by unfold Addr.add; split <;> simp_all
      rw [hadd] at this
      simpa using this

set_option maxHeartbeats 3200000 in
theorem walkDrawOwn (a0 : Option Addr) (len0 cap0 : Nat) (z0 : List Int) (a1 : Int) (w : World) (w0 : IsRow .i64 w a0 len0 cap0 z0) (w1 : (Lit.int .i64 a1).wf = true) :
    Calls Try.prog 6 #[.slice a0 len0 cap0, .int .i64 a1] w fun e w' => e = .returned (.bool true) ∧ Below w.heap.size w w' := by
  obtain ⟨i0, hi, hz0, hz1, hz2⟩ := info_parts infoInt
  have e255 := and255 a1
  have n0 : 0 ≤ a1 % 256 := Int.emod_nonneg _ (by decide)
  have n1 : a1 % 256 < 256 := Int.emod_lt_of_pos _ (by decide)
  generalize a1 % 256 = n at *
  have HI := Lib.hid w0.ints
  have hbd : ∀ x ∈ z0.take len0, -9223372036854775808 ≤ x ∧ x ≤ 9223372036854775807 := by
    rcases w0.at with h | ⟨_, _, _, _, _, _, _, hw⟩
    · simp [h]
    · exact fun x hx => bounds_i64 (hw x (List.mem_of_mem_take hx))
  have hcap : (a0 = none → len0 = 0 ∧ cap0 = 0) ∧ len0 ≤ cap0 ∧ cap0 ≤ 9223372036854775807 := by
    rcases w0 with ⟨_, rfl, rfl, _⟩ | ⟨x, rfl, h1, h2, _⟩
    · exact ⟨fun _ => ⟨rfl, rfl⟩, by omega, by omega⟩
    · exact ⟨fun h => (by cases h), h1, by unfold maxLen at h2; omega⟩
  obtain ⟨hnil, hc1, hc2⟩ := hcap
  have HNIL := Lib.hid hnil
  clear w0 hnil
  generalize z0.take len0 = zs at *
  have hzl : zs.length = len0 := HI.out.1
  obtain ⟨m, hm⟩ : ∃ m : Nat, min len0 10 = m := ⟨_, rfl⟩
  have hm1 : m ≤ len0 ∧ m ≤ 10 := by omega
  obtain ⟨hm1, hm2⟩ := hm1
  have hmI : min (len0 : Int) 10 = (m : Int) := by omega
  have HBD : Hid (∀ x ∈ zs.take m, -9223372036854775808 ≤ x ∧ x ≤ 9223372036854775807) := Lib.hid fun x hx => hbd x (List.mem_of_mem_take hx)
  have hXl : (zs.take m).length = m := by simp; omega
  have HXL := Lib.hid hXl
  have HZL := Lib.hid hzl
  clear hbd hm hXl hzl
  go_enter Try.func6, Try.ntmps6
  go_upto_region 1 with (fail)
  go_cut [5] (fun v5 wx => wx.ownsRow w.heap.size 3 1 v5 m ((zs.take m).map (Value.int .i64)) ∧ Below w.heap.size w wx)
  case first =>
    have hmade := World.ownsRow_made (e := 3) (size := 1) w #[] 0 (Nat.le_refl _) (by unfold maxLen; omega) (by simp)
    cases a0 with
    | none =>
      obtain ⟨rfl, rfl⟩ := HNIL.out rfl
      obtain rfl : m = 0 := by omega
      go_wp2_with (at_builtin; refine wpList_append_own_none rfl _ _ 22 rfl w.heap.size 3 i0 1 Try.underlying22 hi _ _ _ rfl hmade rfl ?_)
      go_wp2_with fail
      go_meet
      exact ⟨by simpa using hmade, alc0 _ _⟩
    | some ad =>
      go_wp2_with (at_builtin; refine wpList_append_own _ rfl _ _ 22 rfl w.heap.size 3 i0 (.int .i64 0) 1 8 Try.underlying22 hi hz0 hz1 hz2 rfl (by decide) _ _ _ rfl hmade ad m cap0 ((zs.take m).map (Value.int .i64)) rfl ?c0 ?c1 ?c2 ?c3 ?c4 ?c5 ?_)
      case c0 => simp; have := HZL.out; omega
      case c1 =>
        intro j u hu
        have hjl := (List.getElem?_eq_some_iff.1 hu).1
        have hXL := HXL.out
        have hZL := HZL.out
        simp only [List.length_map] at hjl
        obtain ⟨_, h0 | ⟨b, off, e, hlt, _, hc⟩⟩ := HI.out
        · omega
        · injection e with e
          subst e
          rw [addp, World.cell?_alloc_lt _ _ _ (by exact hlt), hc j (by omega)]
          have hj2 : j < m := by omega
          rw [List.getElem?_map, List.getElem?_take_of_lt hj2] at hu
          simp only [List.getD_eq_getElem?_getD]
          cases hz : zs[j]? with
          | none => rw [hz] at hu; cases hu
          | some y => rw [hz] at hu; simpa using hu
      case c2 => intro u hu; obtain ⟨x, _, rfl⟩ := List.mem_map.1 hu; rfl
      case c3 => unfold maxLen; omega
      case c4 => omega
      case c5 => simp
      intro v' w2 hown hgrow _
      go_wp2_with fail
      go_meet
      exact ⟨by simpa using hown, (alc0 _ _).grown hgrow (by simp) (fun j hj => (hmade.lt j hj).1)⟩
  case rest =>
    obtain ⟨hown, hbel⟩ := hcut
    obtain ⟨wo, rfl⟩ : ∃ wo : World, wo = wc := ⟨_, rfl⟩
    obtain ⟨A, cA, rfl, hx⟩ := ints_of_row hown
    have hA : m = 0 ∨ ∃ g, A = some ⟨g, 0, none⟩ ∧ w.heap.size ≤ g ∧ g < wo.heap.size ∧ Wr g m wo := by
      obtain ⟨A2, c2, e, h⟩ := own_wr hown
      injection e with e1 e2 e3
      subst e1
      rcases h with h | ⟨g, h1, h2, h3⟩
      · exact .inl h
      · exact .inr ⟨g, h1, h2, h3.1, h3⟩
    have HX := Lib.hid hx
    have HA := Lib.hid hA
    clear hown hx hA
    generalize zs.take m = X at *
    go_wp2_with fail
    refine (dnew_any _ _ _ _ _ HX.out (by omega)).mono ?_
    rintro e w1 ⟨g1, rfl, hd1, hb1⟩
    have HD1 := Lib.hid hd1; clear hd1
    go_wp2_with fail
    refine (dnew_any _ _ _ _ _ (HX.out.below hb1) (by omega)).mono ?_
    rintro e w2 ⟨g2, rfl, hd2, hb2⟩
    have HD2 := Lib.hid hd2; clear hd2
    have s1 := hb1.size
    have s2 := hb2.size
    have s0 := hbel.size
    have gb1 := HD1.out.1
    have gb2 := HD2.out.1
    obtain ⟨gb11, gb12, _⟩ := gb1
    obtain ⟨gb21, gb22, _⟩ := gb2
    have HE1 : Hid (DrIs wo.heap.size w1.heap.size g1 w2 X 0) := Lib.hid (HD1.out.below hb2 (Nat.le_refl _) s2)
    have HB2 : Below w.heap.size w w2 := (hbel.trans (hb1.mono s0)).trans (hb2.mono (by omega))
    have HA2 : Hid (m = 0 ∨ ∃ g, A = some ⟨g, 0, none⟩ ∧ w.heap.size ≤ g ∧ g < wo.heap.size ∧ Wr g m w2) := Lib.hid (by
      rcases HA.out with h | ⟨g, h1, h2, h3, h4⟩
      · exact .inl h
      · exact .inr ⟨g, h1, h2, h3, (h4.keep hb1).keep hb2⟩)
    clear HD1 HA hb1 hb2 hbel
    go_wp2_with fail
    go_loopw [8] (fun i wr => ∃ j : Nat, j ≤ m ∧ i = .int .i64 j ∧ Hid (DrIs wo.heap.size w1.heap.size g1 wr X 0) ∧ Hid (DrIs w1.heap.size w2.heap.size g2 wr X 0) ∧ Hid (m = 0 ∨ ∃ g, A = some ⟨g, 0, none⟩ ∧ w.heap.size ≤ g ∧ g < wo.heap.size ∧ Wr g m wr) ∧ Below w.heap.size w wr) (fun i _ => m - (intOf i).toNat)
    case atStart => exact ⟨0, by omega, rfl, HE1, HD2, HA2, HB2⟩
    case round =>
      clear HE1 HD2 HA2 HB2
      obtain ⟨j, hj, rfl, HE1, HD2, HA2, HB2⟩ := hrel
      by_cases hlt : j < m
      · rcases HA2.out with h | ⟨g, rfl, h2, h3, h4⟩
        · exfalso; omega
        · obtain ⟨fz, v, hcv⟩ := h4.2 j hlt
          have H4 := Lib.hid h4
          have l1 : (j : Int) < (m : Int) := by omega
          clear h4 HA2
          go_wp2_with fail
          go_roundw
          case rel => exact ⟨j + 1, by omega, by go_num, Lib.hid (HE1.out.far (.inl h3)), Lib.hid (HD2.out.far (.inl (by omega))), Lib.hid (.inr ⟨g, rfl, h2, h3, H4.out.set_ hlt⟩), HB2.setCell h2 _⟩
          case measure => simp [intOf]; omega
      · obtain rfl : j = m := by omega
        clear HA2 HX
        have HBX : Hid (∀ x ∈ X, -9223372036854775808 ≤ x ∧ x ≤ 9223372036854775807) := HBD
        clear HBD
        obtain ⟨wq, rfl⟩ : ∃ wq : World, wq = wr := ⟨_, rfl⟩
        go_wp2_with fail
        go_loopw [10] (fun i wr => ∃ (t : Nat) (Z : List Int) (K : Int), t ≤ 15 ∧ i = .int .i64 t ∧ 0 ≤ K ∧ K ≤ t ∧ Hid (DrIs wo.heap.size w1.heap.size g1 wr Z K) ∧ Hid (DrIs w1.heap.size w2.heap.size g2 wr Z K) ∧ Hid (∀ x ∈ Z, -9223372036854775808 ≤ x ∧ x ≤ 9223372036854775807) ∧ Below w.heap.size w wr) (fun i _ => 15 - (intOf i).toNat)
        case atStart => exact ⟨0, X, 0, by omega, rfl, by omega, by omega, HE1, HD2, HBX, HB2⟩
        case round =>
          clear HE1 HD2 HBX HB2
          obtain ⟨t, Z, K, ht, rfl, K0, K1, HE1, HD2, HBX, HB2⟩ := hrel
          by_cases hlt2 : t < 15
          · obtain ⟨v0, v1⟩ := nxV_bd Z K (n + 1) (by omega)
            go_wp2_with fail
            refine (dnext_any _ _ _ _ _ _ _ HE1.out (by omega) (by omega) (by omega) HBX.out).mono ?_
            rintro e w3 ⟨rfl, hd3, o3, u3, rfl⟩
            have HD3 := Lib.hid hd3; clear hd3
            have HD4 := Lib.hid (HD2.out.far (o := o3) (v := u3) (.inl gb12))
            have HB3 : Below w.heap.size w (wr.setCell ⟨g1, o3, none⟩ u3) := HB2.setCell (by show w.heap.size ≤ g1; omega) _
            generalize wr.setCell ⟨g1, o3, none⟩ u3 = w3 at *
            go_wp2_with fail
            refine (dnext_any _ _ _ _ _ _ _ HD4.out (by omega) (by omega) (by omega) HBX.out).mono ?_
            rintro e w4 ⟨rfl, hd4, o4, u4, rfl⟩
            have HD5 := Lib.hid hd4; clear hd4
            have HD6 := Lib.hid (HD3.out.far (o := o4) (v := u4) (.inr gb21))
            have HB4 : Below w.heap.size w (w3.setCell ⟨g2, o4, none⟩ u4) := HB3.setCell (by show w.heap.size ≤ g2; omega) _
            generalize w3.setCell ⟨g2, o4, none⟩ u4 = w4 at *
            have hK : 0 ≤ nxK Z K ∧ nxK Z K ≤ (t : Int) + 1 := by unfold nxK; split <;> omega
            obtain ⟨hK0, hK1⟩ := hK
            generalize nxV Z K (n + 1) = V at *
            have hv0 : ¬ V < 0 := by omega
            have hv1 : ¬ n + 1 ≤ V := by omega
            go_wp2_with fail
            go_roundw
            case rel => exact ⟨t + 1, _, _, by omega, by go_num, hK0, by omega, HD6, HD5, Lib.hid (fun x hx => HBX.out x (List.mem_of_mem_tail hx)), HB4⟩
            case measure => simp [intOf]; omega
          · obtain rfl : t = 15 := by omega
            go_wp2_with fail
            refine (d22awake_any _).mono ?_
            rintro e w5 ⟨rfl, hb5⟩
            go_wp2_with fail
            refine (dnext_low _ _ _ (by omega)).mono ?_
            rintro e w6 ⟨rfl, rfl⟩
            go_wp2_with fail
            go_ret
            exact ⟨rfl, HB2.trans (hb5.mono HB2.size)⟩
end Go.Proofs.Ytlajhhecipabaab
