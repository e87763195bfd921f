/- Contracts of package pick. -/
import Derived.Test.YtgidnmjeifgciaaDoorIntsC
namespace Go.Proofs.YtgidnmjeifgciaaDoor
set_option maxRecDepth 100000
open Go.RowKit
set_option linter.unusedVariables false

theorem infoIntP : (Tryd.prog.info? 3).map (fun i => (i.zero, i.size, i.bytes)) = some (some (.int .i64 0), 1, 8) := by kernel_rfl

/-- Of the tags from 1 to k those that are not in zs. -/
def mayL (zs : List Int) : Nat → List Int
  | 0 => []
  | k + 1 => if ((k : Int) + 1) ∈ zs then mayL zs k else mayL zs k ++ [(k : Int) + 1]
theorem mayL_le (zs : List Int) (k : Nat) : (mayL zs k).length ≤ k := by
  induction k with
  | zero => simp [mayL]
  | succ k ih =>
    rw [mayL]
    split
    · omega
    · simp; omega
theorem mayL_mem (zs : List Int) (k : Nat) (t : Int) : t ∈ mayL zs k ↔ 1 ≤ t ∧ t ≤ k ∧ t ∉ zs := by
  induction k with
  | zero => simp [mayL]; omega
  | succ k ih =>
    rw [mayL]
    split
    · rename_i h
      rw [ih]
      constructor
      · rintro ⟨a, b, c⟩; exact ⟨a, by omega, c⟩
      · rintro ⟨a, b, c⟩
        refine ⟨a, ?_, c⟩
        have : t ≠ (k : Int) + 1 := fun e => c (e ▸ h)
        omega
    · rename_i h
      rw [List.mem_append, ih, List.mem_singleton]
      constructor
      · rintro (⟨a, b, c⟩ | rfl)
        · exact ⟨a, by omega, c⟩
        · exact ⟨by omega, by omega, h⟩
      · rintro ⟨a, b, c⟩
        by_cases e : t = (k : Int) + 1
        · exact .inr e
        · exact .inl ⟨a, by omega, c⟩

def MayPost (zs : List Int) (w : World) (e : Ending) (w' : World) : Prop :=
  ∃ v, e = .returned v ∧ w'.ownsRow w.heap.size 3 1 v (mayL zs 15).length ((mayL zs 15).map (Value.int .i64)) ∧ Below w.heap.size w w'

theorem contains_is (r : Bool) (a : Option Addr) (len cap : Nat) (zs : List Int) (v : Int) (w : World) (h : Ints .i64 w a len zs) (hr : decide (v ∈ zs) = r) :
    Calls Tryd.prog 150 #[.slice a len cap, .int .i64 v] w fun e w' => e = .returned (.bool r) ∧ w = w' := by
  subst hr; exact contains_any a len cap zs v w h

set_option maxHeartbeats 800000 in
theorem pk_may_any (a : Option Addr) (len cap : Nat) (zs : List Int) (w : World) (h : Ints .i64 w a len zs) :
    Calls Tryd.prog 136 #[.slice a len cap] w (MayPost zs w) := by
  obtain ⟨i0, hi, hz0, hz1, hz2⟩ := info_parts infoIntP
  have HI := Lib.hid h; clear h
  go_enter Tryd.func136, Tryd.ntmps136
  go_wp2_with fail
  go_loopw [3, 4] (fun v t wr => ∃ k : Nat, k ≤ 15 ∧ t = .int .i64 ((k : Int) + 1) ∧ wr.ownsRow w.heap.size 3 1 v (mayL zs k).length ((mayL zs k).map (Value.int .i64)) ∧ Below w.heap.size w wr) (fun _ t _ => 16 - (intOf t).toNat)
  case atStart => exact ⟨0, by omega, rfl, World.ownsRow_nil _ _ _ _, Below.refl _ _⟩
  case round =>
    obtain ⟨k, hk, rfl, hown, hbel⟩ := hrel
    have hin := HI.out.below hbel
    have HIN := Lib.hid hin; clear hin
    have hkl := mayL_le zs k
    have hbs := hbel.size
    by_cases hlt : k < 15
    · by_cases hmem : ((k : Int) + 1) ∈ zs
      · have hs : mayL zs (k + 1) = mayL zs k := by rw [mayL, if_pos hmem]
        have HS := Lib.hid hs; clear hs
        have HM := Lib.hid hmem; clear hmem
        go_wp2_with (go_at_call 150; refine (contains_is true _ _ _ _ _ _ HIN.out (by simpa using HM.out)).mono ?_; rintro e w' ⟨rfl, rfl⟩)
        go_roundw
        case rel => exact ⟨k + 1, by omega, by go_num, by rw [HS.out]; exact hown, hbel⟩
        case measure => simp [intOf]; omega
      · have hs : mayL zs (k + 1) = mayL zs k ++ [(k : Int) + 1] := by rw [mayL, if_neg hmem]
        have HS := Lib.hid hs; clear hs
        have HM := Lib.hid hmem; clear hmem
        go_wp2_with (first | (go_at_call 150; refine (contains_is false _ _ _ _ _ _ HIN.out (by simpa using HM.out)).mono ?_; rintro e w' ⟨rfl, rfl⟩) | (at_builtin; refine wpList_append_own _ rfl _ _ 54 rfl w.heap.size 3 i0 (.int .i64 0) 1 8 Tryd.underlying54 hi hz0 hz1 hz2 rfl (by decide) _ _ _ rfl (hown.alloc _) ⟨wr.heap.size, 0, none⟩ 1 1 [.int .i64 ((k : Int) + 1)] rfl rfl ?c1 ?c2 ?c3 ?c4 ?c5 ?_))
        case c1 => exact cell_one_new _ _ _
        case c2 => simp [Value.oneCell']
        case c3 => unfold maxLen; omega
        case c4 => omega
        case c5 => simp; omega
        intro v' w1 hown1 hgrow _
        have hb1 : Below w.heap.size w w1 := (hbel.alloc hbs _).grown hgrow (by simp; omega) (fun j hj => (hown.lt j hj).1)
        clear hgrow hown
        go_wp2
        go_roundw
        case rel => exact ⟨k + 1, by omega, by go_num, by rw [HS.out]; simpa using hown1, hb1⟩
        case measure => simp [intOf]; omega
    · obtain rfl : k = 15 := by omega
      go_wp2
      go_ret
      exact ⟨_, rfl, hown, hbel⟩

/-- Of: a tag that is not among zs, by the draw; 0 if there is none. -/
def ofP (d : Int) (zs : List Int) : Int := if mayL zs 15 = [] then 0 else (mayL zs 15).getD (d % ((mayL zs 15).length : Int)).toNat 0

theorem pk_ints_of_row {w : World} {B E : Nat} {v : Value} {n : Nat} {l : List Int} (h : w.ownsRow B E 1 v n (l.map (Value.int .i64))) :
    ∃ a cap, v = .slice a n cap ∧ Ints .i64 w a n l := by
  have hl : l.length = n := by simpa using h.1
  rcases h.2 with ⟨rfl, rfl⟩ | ⟨g, cap, cur, hv, _, _, hc, hm, _⟩
  · exact ⟨none, 0, rfl, hl, .inl rfl⟩
  · refine ⟨_, cap, hv, hl, ?_⟩
    by_cases h0 : n = 0
    · exact .inl h0
    · have hb := h.lt g (by rw [hv]; rfl)
      refine .inr ⟨g, 0, rfl, hb.2, by unfold maxLen at hm; omega, fun i hi => ?_⟩
      have := h.cells (g := g) (by rw [hv]; rfl) i (.int .i64 (l.getD i 0)) (by simp [List.getD, List.getElem?_eq_getElem (show i < l.length by omega)])
      have hadd : (⟨g, 0, none⟩ : Addr).add i = ⟨g, i, none⟩ := by unfold Addr.add; split <;> simp_all
      rw [hadd] at this
      simpa using this

def PkListPost (l : List Int) (w : World) (e : Ending) (w' : World) : Prop :=
  ∃ a cap, e = .returned (.slice a l.length cap) ∧ Ints .i64 w' a l.length l ∧ Below w.heap.size w w'
theorem may_list (a : Option Addr) (len cap : Nat) (zs : List Int) (w : World) (h : Ints .i64 w a len zs) :
    Calls Tryd.prog 136 #[.slice a len cap] w (PkListPost (mayL zs 15) w) :=
  (pk_may_any a len cap zs w h).mono fun _ _ ⟨_, he, hr, hb⟩ => by
    obtain ⟨a, cap, rfl, hi⟩ := pk_ints_of_row hr
    exact ⟨a, cap, he, hi, hb⟩

theorem tmod_cases (d n : Int) (hn : 0 < n) : ∃ q r, d.tmod n = q ∧ d % n = r ∧ 0 ≤ r ∧ r < n ∧ (0 ≤ q ∧ q = r ∨ q < 0 ∧ q + n = r) := by
  refine ⟨_, _, rfl, rfl, Int.emod_nonneg d (by omega), Int.emod_lt_of_pos d hn, ?_⟩
  rcases Int.lt_or_le d 0 with h | h
  · have e := Int.emod_nonneg d (b := n) (by omega)
    have l := Int.emod_lt_of_pos d hn
    have t := Int.tmod_eq_emod (a := d) (b := n)
    by_cases hd : n ∣ d
    · rw [if_pos (Or.inr hd)] at t
      left; omega
    · rw [if_neg (by omega)] at t
      have : (n.natAbs : Int) = n := by omega
      right; omega
  · left
    rw [Int.tmod_eq_emod_of_nonneg h]
    exact ⟨Int.emod_nonneg d (by omega), rfl⟩

set_option maxHeartbeats 400000 in
theorem pk_of_any (d : Int) (a : Option Addr) (len cap : Nat) (zs : List Int) (w : World) (h : Ints .i64 w a len zs) (hd : -9223372036854775808 ≤ d ∧ d ≤ 9223372036854775807) :
    Calls Tryd.prog 96 #[.int .i64 d, .slice a len cap] w fun e w' => e = .returned (.int .i64 (ofP d zs)) ∧ Below w.heap.size w w' := by
  have HI := Lib.hid h; clear h
  have hle := mayL_le zs 15
  have hdef : ofP d zs = if mayL zs 15 = [] then 0 else (mayL zs 15).getD (d % ((mayL zs 15).length : Int)).toNat 0 := rfl
  have HD := Lib.hid hdef; clear hdef
  go_enter Tryd.func96, Tryd.ntmps96
  go_wp2_with fail
  refine (may_list _ _ _ _ _ HI.out).mono ?_
  rintro e w1 ⟨a1, cap1, rfl, hi, hbel⟩
  generalize mayL zs 15 = l at *
  obtain ⟨_, hi⟩ := hi
  rcases hi with h0 | ⟨b, off, rfl, hb, _, hc⟩
  · have hl : l = [] := List.length_eq_zero_iff.1 h0
    have HL := Lib.hid hl; clear hl
    rw [h0]
    clear h0
    go_wp2
    go_ret
    exact ⟨ret_int (by rw [HD.out, if_pos HL.out]), hbel⟩
  · by_cases h0 : l.length = 0
    · have hl : l = [] := List.length_eq_zero_iff.1 h0
      have HL := Lib.hid hl; clear hl
      rw [h0]
      clear h0 hc
      go_wp2
      go_ret
      exact ⟨ret_int (by rw [HD.out, if_pos HL.out]), hbel⟩
    · have hn1 : 0 < l.length := by omega
      have hne : l ≠ [] := by intro e; simp [e] at h0
      have HN := Lib.hid hne; clear hne
      have h00 : ((l.length : Int) == 0) = false := by rw [beq_eq_false_iff_ne]; omega
      obtain ⟨q, r, hq, hr, r0, r1, hqr⟩ := tmod_cases d (l.length : Int) (by omega)
      have hck := hc r.toNat (by omega)
      have hval : ofP d zs = l.getD r.toNat 0 := by rw [HD.out, if_neg HN.out, hr]
      have HV := Lib.hid hval
      clear hc HD hval
      generalize l.getD r.toNat 0 = x at *
      have hn0 : ¬ (l.length : Int) = 0 := by omega
      rcases hqr with ⟨q0, q1⟩ | ⟨q0, q1⟩
      · subst q1
        go_wp2
        go_ret
        exact ⟨ret_int HV.out.symm, hbel⟩
      · obtain rfl : r = q + l.length := q1.symm
        go_wp2
        go_ret
        exact ⟨ret_int HV.out.symm, hbel⟩
end Go.Proofs.YtgidnmjeifgciaaDoor
