/- Contracts of package shuf: Of. -/
import Derived.Test.YtbmcgoodilomlaaDrawE
import Derived.Deep.DeepCutAuto
namespace Go.Proofs.Ytbmcgoodilomlaa
open Go.RowKit
set_option linter.unusedVariables false
set_option linter.unusedSimpArgs false

/-- A row of integers that may be written. -/
def RowW (b : Nat) (W : World) (n : Nat) (xs : List Int) : Prop :=
  b < W.heap.size ∧ xs.length = n ∧ ∀ i, i < n → W.cell? ⟨b, i, none⟩ = some (.int .i64 (xs.getD i 0)) ∧ W.frozen? ⟨b, i, none⟩ = false
theorem RowW.keep {b n : Nat} {W W' : World} {xs : List Int} (h : RowW b W n xs) (hs : W.heap.size ≤ W'.heap.size) (hb : W'.heap[b]? = W.heap[b]?) : RowW b W' n xs :=
  ⟨Nat.lt_of_lt_of_le h.1 hs, h.2.1, fun i hi => ⟨(World.cell?_of_block hb).trans (h.2.2 i hi).1, (World.frozen?_of_block hb).trans (h.2.2 i hi).2⟩⟩
theorem RowW.set_ {b n i : Nat} {W : World} {xs : List Int} (h : RowW b W n xs) (hi : i < n) (v : Int) : RowW b (W.setCell ⟨b, i, none⟩ (.int .i64 v)) n (xs.set i v) := by
  obtain ⟨h1, h2, h3⟩ := h
  refine ⟨by rw [size_set]; exact h1, by simpa using h2, fun j hj => ⟨?_, by simpa using (h3 j hj).2⟩⟩
  by_cases e : j = i
  · subst e
    rw [World.cell?_setCell_same _ _ _ (h3 j hj).1]
    simp [List.getD_eq_getElem?_getD, List.getElem?_set, h2, hj]
  · rw [World.cell?_setCell_other _ _ _ _ (by intro x; injection x with _ x; omega), (h3 j hj).1]
    simp [List.getD_eq_getElem?_getD, List.getElem?_set, Ne.symm e]
def swp (X : List Int) (i k : Nat) : List Int := (X.set i (X.getD k 0)).set k (X.getD i 0)
theorem swp_len (X : List Int) (i k : Nat) : (swp X i k).length = X.length := by simp [swp]
theorem RowW.swp {b n i k : Nat} {W : World} {X : List Int} (h : RowW b W n X) (hi : i < n) (hk : k < n) : RowW b ((W.setCell ⟨b, i, none⟩ (.int .i64 (X.getD k 0))).setCell ⟨b, k, none⟩ (.int .i64 (X.getD i 0))) n (swp X i k) :=
  (h.set_ hi _).set_ hk _
/-- From place p on, down to 1, each changes with one that is drawn. -/
def shufL : Nat → List Int → List Int → Int → List Int
  | 0, X, _, _ => X
  | p + 1, X, Z, K => shufL p (swp X (p + 1) (nxV Z K ((p : Int) + 2)).toNat) Z.tail (nxK Z K)
theorem shufL_len : ∀ (p : Nat) (X Z : List Int) (K : Int), (shufL p X Z K).length = X.length
  | 0, _, _, _ => rfl
  | p + 1, X, Z, K => by rw [shufL, shufL_len p, swp_len]
/-- A slice of n integers, in a row of its own. -/
def SlW (b : Nat) (W : World) (A : Option Addr) (n c : Nat) (xs : List Int) : Prop :=
  xs.length = n ∧ n ≤ c ∧ c ≤ 9223372036854775807 ∧ (n = 0 ∨ (A = some ⟨b, 0, none⟩ ∧ RowW b W n xs))
theorem SlW.keep {b n c : Nat} {A : Option Addr} {W W' : World} {xs : List Int} (h : SlW b W A n c xs) (hs : W.heap.size ≤ W'.heap.size) (hb : n ≠ 0 → b < W.heap.size → W'.heap[b]? = W.heap[b]?) : SlW b W' A n c xs := by
  obtain ⟨h1, h2, h3, h⟩ := h
  by_cases h0 : n = 0
  · exact ⟨h1, h2, h3, .inl h0⟩
  · rcases h with h | ⟨e, hr⟩
    · exact absurd h h0
    · exact ⟨h1, h2, h3, .inr ⟨e, hr.keep hs (hb h0 hr.1)⟩⟩
theorem SlW.below {b n c : Nat} {A : Option Addr} {W W' : World} {xs : List Int} (h : SlW b W A n c xs) (hb : Below W.heap.size W W') : SlW b W' A n c xs := h.keep hb.size (fun _ => hb.block b)
theorem SlW.ints {b n c : Nat} {A : Option Addr} {W : World} {xs : List Int} (h : SlW b W A n c xs) : Ints .i64 W A n xs := by
  obtain ⟨h1, h2, h3, h | ⟨e, h4, h5, h6⟩⟩ := h
  · exact ⟨h1, .inl h⟩
  · exact ⟨h1, .inr ⟨b, 0, e, h4, by omega, fun i hi => by rw [Nat.zero_add]; exact (h6 i hi).1⟩⟩
theorem slW_of {b n : Nat} {W : World} {v : Value} {xs : List Int} (h : RowB b W v n xs) : ∃ A c, v = .slice A n c ∧ SlW b W A n c xs := by
  obtain ⟨A, c, rfl, h1, h2, h3, ⟨_, h, _⟩ | ⟨e, hb, h4, h5⟩⟩ := h
  · exact ⟨A, c, rfl, h1, h2, h3, .inl h⟩
  · exact ⟨A, c, rfl, h1, h2, h3, .inr ⟨e, hb, h1, fun i hi => ⟨h4 i hi, (h5 i (by omega)).2⟩⟩⟩
def OfPost (g : Nat) (W : World) (n : Nat) (xs : List Int) (e : Ending) (w' : World) : Prop :=
  ∃ bo A c, e = .returned (.slice A n c) ∧ W.heap.size ≤ bo ∧ SlW bo w' A n c xs ∧ ∀ L, L ≤ g → L ≤ W.heap.size → Below L W w'
set_option maxHeartbeats 3200000 in
theorem of_any (a : Option Addr) (n c : Nat) (xs : List Int) (g b : Nat) (zs : List Int) (k0 : Int) (W : World) (hI : Ints .i64 W a n xs) (hn : n ≤ 100) (hd : DrB g b W zs k0) (hbB : b < W.heap.size) (hk : 0 ≤ k0 ∧ k0 ≤ 100) (hz : ∀ x ∈ zs, -9223372036854775808 ≤ x ∧ x ≤ 9223372036854775807) :
    Calls Try.prog 15 #[.slice a n c, .pointer (some ⟨g, 0, none⟩)] W (OfPost g W n (shufL (n - 1) xs zs k0)) := by
  have HI := Lib.hid hI
  have HD := Lib.hid hd
  have HZ := Lib.hid hz
  have hgs : g < W.heap.size := hd.1
  clear hI hd hz
  obtain ⟨FIN, hF⟩ : ∃ F, shufL (n - 1) xs zs k0 = F := ⟨_, rfl⟩
  have HF := Lib.hid hF
  rw [hF]
  clear hF
  go_enter Try.func15, Try.ntmps15
  go_wp2_with fail
  refine (clone_b _ _ _ _ _ HI.out (by omega)).mono ?_
  rintro e w1 ⟨bo, v, rfl, hbo, hr, hb⟩
  obtain ⟨A, c1, rfl, hs⟩ := slW_of hr
  have HS := Lib.hid hs
  have HD1 := Lib.hid (HD.out.below hb)
  have HB1 : Hid (∀ L, L ≤ g → L ≤ W.heap.size → Below L W w1) := Lib.hid fun L _ h => hb.mono h
  have hs1 := hb.size
  clear hr hs hb HD HI
  go_wp2_with fail
  go_loopw [5] (fun i wr => ∃ (p : Nat) (X Z : List Int) (K : Int), (i = .int .i64 (p : Int) ∧ p < n ∨ i = .int .i64 (-1) ∧ n = 0 ∧ p = 0) ∧ 0 ≤ K ∧ K + p ≤ 200 ∧ Hid (SlW bo wr A n c1 X) ∧ Hid (DrB g b wr Z K) ∧ Hid (shufL p X Z K = FIN) ∧ Hid (∀ x ∈ Z, -9223372036854775808 ≤ x ∧ x ≤ 9223372036854775807) ∧ Hid (∀ L, L ≤ g → L ≤ W.heap.size → Below L W wr) ∧ W.heap.size ≤ wr.heap.size) (fun i _ => (intOf i).toNat)
  case atStart =>
    by_cases h0 : n = 0
    · subst h0
      exact ⟨0, _, _, _, .inr ⟨by simp, rfl, rfl⟩, hk.1, by omega, HS, HD1, HF, HZ, HB1, hs1⟩
    · exact ⟨n - 1, _, _, _, .inl ⟨by rw [show (((n - 1 : Nat)) : Int) = (n : Int) - 1 by omega], by omega⟩, hk.1, by omega, HS, HD1, HF, HZ, HB1, hs1⟩
  case round =>
    clear HS HD1 HF HZ HB1 hs1
    obtain ⟨p, X, Z, K, hi, K0, K1, HS, HD, HF, HZ, HB, hsz⟩ := hrel
    rcases hi with ⟨rfl, hp⟩ | ⟨rfl, rfl, rfl⟩
    · cases p with
      | zero =>
        have hfin : X = FIN := HF.out
        subst hfin
        clear HF
        go_wp2
        go_ret
        exact ⟨bo, A, c1, rfl, hbo, HS.out, HB.out⟩
      | succ p =>
        have hvb := nxV_bd Z K ((p : Int) + 2) (by omega)
        obtain ⟨v, hv⟩ : ∃ v : Nat, nxV Z K ((p : Int) + 2) = (v : Int) := ⟨_, (Int.toNat_of_nonneg hvb.1).symm⟩
        have hvn : v < p + 2 := by omega
        have hF2 := HF.out
        rw [shufL, hv, Int.toNat_natCast] at hF2
        have HF2 := Lib.hid hF2
        have HV := Lib.hid hv
        have hps : (((p + 1 : Nat) : Int)) = (p : Int) + 1 := by omega
        clear hF2 hv hvb HF
        rw [hps]
        clear hps
        go_wp2_with fail
        refine (dnext_any g b Z K _ _ HD.out (by omega) (by omega) (by omega) HZ.out).mono ?_
        rintro e w2 ⟨rfl, hd, o2, u2, rfl⟩
        have hpp : (p : Int) + 1 + 1 = (p : Int) + 2 := by omega
        rw [hpp, HV.out]
        have hne : bo ≠ g := by omega
        have hS2 := HS.out.keep (W' := wr.setCell ⟨g, o2, none⟩ u2) (by rw [size_set]; exact Nat.le_refl _) (fun _ _ => heap_other wr g o2 u2 bo hne)
        have HB2 : Hid (∀ L, L ≤ g → L ≤ W.heap.size → Below L W (wr.setCell ⟨g, o2, none⟩ u2)) := Lib.hid fun L h1 h2 => (HB.out L h1 h2).setCell h1 _
        have hsz2 : W.heap.size ≤ (wr.setCell ⟨g, o2, none⟩ u2).heap.size := by rw [size_set]; exact hsz
        have HD2 := Lib.hid hd
        obtain ⟨w2, hw2⟩ : ∃ w2, wr.setCell ⟨g, o2, none⟩ u2 = w2 := ⟨_, rfl⟩
        rw [hw2] at hS2 HB2 hsz2 HD2 ⊢
        clear hd hw2 HS HB HD hpp hsz
        obtain ⟨hx1, hx2, hx3, h0 | ⟨rfl, hrow⟩⟩ := hS2
        · omega
        · have c1' := hrow.2.2 (p + 1) (by omega)
          have c2' := hrow.2.2 v (by omega)
          obtain ⟨d1, f1⟩ := c1'
          obtain ⟨d2, f2⟩ := c2'
          have HR := Lib.hid (hrow.swp (i := p + 1) (k := v) (by omega) (by omega))
          have hbq : bo < w2.heap.size := hrow.1
          clear hrow
          generalize hq1 : X.getD (p + 1) 0 = y1 at *
          generalize hq2 : X.getD v 0 = y2 at *
          have HX := Lib.hid (And.intro hx1 (And.intro hx2 hx3))
          clear hx1 hx2 hx3
          have i1 : ((p : Int) + 1).toNat = p + 1 := by omega
          have i2 : (p : Int) + 1 < (n : Int) := by omega
          have i3 : (v : Int) < (n : Int) := by omega
          have i4 : 0 ≤ (p : Int) + 1 := by omega
          obtain ⟨w3, hw3⟩ : ∃ w3, (w2.setCell ⟨bo, p + 1, none⟩ (.int .i64 y2)).setCell ⟨bo, v, none⟩ (.int .i64 y1) = w3 := ⟨_, rfl⟩
          have HW3 := Lib.hid hw3
          have hS3 : SlW bo w3 (some ⟨bo, 0, none⟩) n c1 (swp X (p + 1) v) := by
            rw [hw3] at HR
            exact ⟨by rw [swp_len]; exact HX.out.1, HX.out.2.1, HX.out.2.2, .inr ⟨rfl, HR.out⟩⟩
          have hsz3 : w3.heap.size = w2.heap.size := by rw [← hw3, size_set, size_set]
          have ho3 : ∀ i, i ≠ bo → w3.heap[i]? = w2.heap[i]? := fun i hi => by rw [← hw3, heap_other _ bo v _ i hi, heap_other _ bo (p + 1) _ i hi]
          have HD3 := Lib.hid (HD2.out.keep (W' := w3) (by omega) (ho3 g (Ne.symm hne)) (fun _ => ho3 b (by omega)))
          have HB3 : Hid (∀ L, L ≤ g → L ≤ W.heap.size → Below L W w3) := Lib.hid fun L h1 h2 => by rw [← hw3]; exact ((HB2.out L h1 h2).setCell (by show L ≤ bo; omega) _).setCell (by show L ≤ bo; omega) _
          have HS3 := Lib.hid hS3
          clear hw3 hS3 ho3 HB2 HD2 HR
          go_upto_region 6 with (fail)
          have HS3D : Hid (SlW bo w3.drew (some ⟨bo, 0, none⟩) n c1 (swp X (p + 1) v)) := HS3
          have HD3D : Hid (DrB g b w3.drew Z.tail (nxK Z K)) := HD3
          have HB3D : Hid (∀ L, L ≤ g → L ≤ W.heap.size → Below L W w3.drew) := Lib.hid fun L h1 h2 => (HB3.out L h1 h2).drew
          have HZ2 : Hid (∀ x ∈ Z.tail, -9223372036854775808 ≤ x ∧ x ≤ 9223372036854775807) := Lib.hid fun x hx => HZ.out x (List.mem_of_mem_tail hx)
          have hK2 : 0 ≤ nxK Z K ∧ nxK Z K ≤ K + 1 := by unfold nxK; split <;> omega
          obtain ⟨hK2, hK4⟩ := hK2
          have hK3 : nxK Z K + p ≤ 200 := by omega
          clear hK4
          by_cases hvp : v = p + 1
          · subst hvp
            obtain rfl : y1 = y2 := by rw [← hq1, ← hq2]
            clear hq1 hq2 d2 f2
            have i5 : (((p + 1 : Nat) : Int)) = (p : Int) + 1 := by omega
            rw [i5] at i3 ⊢
            go_region
            all_goals
              go_wp2_with fail
              rw [HW3.out]
              go_roundw
              case rel => exact ⟨p, _, _, _, .inl ⟨by go_num, by omega⟩, hK2, hK3, HS3D, HD3D, HF2, HZ2, HB3D, by show W.heap.size ≤ w3.heap.size; omega⟩
              case measure => simp [intOf]
          · clear hq1 hq2
            have hvp2 : ¬ p + 1 = v := fun h => hvp h.symm
            go_region
            all_goals
              go_wp2_with fail
              rw [HW3.out]
              go_roundw
              case rel => exact ⟨p, _, _, _, .inl ⟨by go_num, by omega⟩, hK2, hK3, HS3D, HD3D, HF2, HZ2, HB3D, by show W.heap.size ≤ w3.heap.size; omega⟩
              case measure => simp [intOf]
    · have hfin : X = FIN := HF.out
      subst hfin
      clear HF
      go_wp2
      go_ret
      exact ⟨bo, A, c1, rfl, hbo, HS.out, HB.out⟩
end Go.Proofs.Ytbmcgoodilomlaa
