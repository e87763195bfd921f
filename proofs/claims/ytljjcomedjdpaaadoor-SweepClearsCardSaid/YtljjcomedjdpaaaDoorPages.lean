/- Contracts of package pages. -/
import Derived.Test.YtljjcomedjdpaaaDoorSetK
import Derived.Test.YtljjcomedjdpaaaDoorSetB
import Derived.Test.YtljjcomedjdpaaaDoorSetL
import Derived.Deep.RegionWith
import Derived.Deep.QuietTactic
import Derived.WalkSmall
namespace Go.Proofs.YtljjcomedjdpaaaDoor
set_option maxRecDepth 100000
open Go.RowKit
set_option linter.unusedVariables false
set_option linter.unusedSimpArgs false

/-- Pages at block p: the set at g, in memory from lo on, below hi, says which are mapped: c of them; so many may be; so many were at most. -/
def PgIs (lo hi g p : Nat) (W : World) (c most peak : Int) (ws : List Nat) : Prop :=
  SetIs lo hi g W 1024 c ws ∧ (hi ≤ p ∧ p < W.heap.size) ∧ (0 ≤ most ∧ most ≤ 1024 ∧ 0 ≤ c ∧ c ≤ 1024 ∧ 0 ≤ peak ∧ peak ≤ 1024) ∧ W.cell? ⟨p, 0, none⟩ = some (.pointer (some ⟨g, 0, none⟩)) ∧ W.cell? ⟨p, 1, none⟩ = some (.int .i64 most) ∧ W.cell? ⟨p, 2, none⟩ = some (.int .i64 peak) ∧ W.frozen? ⟨p, 2, none⟩ = false
theorem PgIs.keep {lo hi g p : Nat} {W W' : World} {c most peak : Int} {ws : List Nat} (h : PgIs lo hi g p W c most peak ws) (hs : W.heap.size ≤ W'.heap.size) (hk : ∀ i, lo ≤ i → i ≤ p → W'.heap[i]? = W.heap[i]?) : PgIs lo hi g p W' c most peak ws := by
  obtain ⟨h1, ⟨h2, h3⟩, h4, h5, h6, h7, h8⟩ := h
  have hl : lo ≤ p := by have := h1.1; omega
  have hp := hk p hl (Nat.le_refl _)
  exact ⟨h1.keep hs (fun i i1 i2 => hk i i1 (by omega)), ⟨h2, by omega⟩, h4, (World.cell?_of_block hp).trans h5, (World.cell?_of_block hp).trans h6, (World.cell?_of_block hp).trans h7, (World.frozen?_of_block hp).trans h8⟩
theorem PgIs.below {lo hi g p B : Nat} {W W' : World} {c most peak : Int} {ws : List Nat} (h : PgIs lo hi g p W c most peak ws) (hb : Below B W W') (hB : p < B) (hs : W.heap.size ≤ W'.heap.size) : PgIs lo hi g p W' c most peak ws :=
  h.keep hs fun i _ hi => hb.block i (by omega)

def PNewPost (k : Int) (W : World) (e : Ending) (w' : World) : Prop :=
  ∃ g p, e = .returned (.pointer (some ⟨p, 0, none⟩)) ∧ PgIs W.heap.size p g p w' 0 k 0 (List.replicate 16 0) ∧ Below W.heap.size W w'
theorem pnew_any (m k : Int) (W : World) (hk : min (max m 0) 1024 = k) :
    Calls Tryd.prog 43 #[.int .i64 m] W (PNewPost k W) := by
  have hc : m ≤ 0 ∧ k = 0 ∨ 0 < m ∧ m ≤ 1024 ∧ k = m ∨ 1024 < m ∧ k = 1024 := by omega
  have hk2 : 0 ≤ k ∧ k ≤ 1024 := by omega
  have HK := Lib.hid hk2
  clear hk hk2
  go_enter Tryd.func43, Tryd.ntmps43
  rcases hc with ⟨h1, rfl⟩ | ⟨h1, h2, rfl⟩ | ⟨h1, rfl⟩
  all_goals
    go_wp2_with fail
    refine (snew_any 1024 1024 _ (by decide)).mono ?_
    rintro e v1 ⟨g, rfl, hs, hb1⟩
    rw [show (((1024 : Int) + 63) / 64).toNat = 16 by decide] at hs
    have HS := Lib.hid hs; clear hs
    go_wp2_with fail
    all_goals
      go_ret
      exact ⟨g, v1.heap.size, rfl, ⟨HS.out.keep (by simp) (fun i _ hi => heap_old _ _ _ hi), ⟨Nat.le_refl _, by simp⟩, ⟨by have := HK.out; omega, by have := HK.out; omega, by omega, by omega, by omega, by omega⟩, by simp, by simp <;> omega, by simp, by simp⟩, alc hb1 _⟩

def thereI (f n : Int) : Prop := 0 ≤ f ∧ f < 1024 ∧ 1 ≤ n ∧ n ≤ 1024 - f
instance (f n : Int) : Decidable (thereI f n) := by unfold thereI; infer_instance
theorem pthere (f n : Int) (W : World) :
    Calls Tryd.prog 67 #[.int .i64 f, .int .i64 n] W fun e w' => e = .returned (.bool (decide (thereI f n))) ∧ W = w' := by
  have hd : decide (thereI f n) = decide (0 ≤ f ∧ f < 1024 ∧ 1 ≤ n ∧ n ≤ 1024 - f) := rfl
  have HD := Lib.hid hd; clear hd
  by_cases h1 : 0 ≤ f
  · by_cases h2 : f < 1024
    · by_cases h3 : 1 ≤ n
      · go_enter Tryd.func67, Tryd.ntmps67
        go_wp2
        go_ret
        exact ⟨ret_bool (by rw [HD.out, decide_eq_decide]; omega), rfl⟩
      · go_enter Tryd.func67, Tryd.ntmps67
        go_wp2
        go_ret
        exact ⟨ret_bool (by rw [HD.out]; exact (decide_eq_false (by omega)).symm), rfl⟩
    · go_enter Tryd.func67, Tryd.ntmps67
      go_wp2
      go_ret
      exact ⟨ret_bool (by rw [HD.out]; exact (decide_eq_false (by omega)).symm), rfl⟩
  · go_enter Tryd.func67, Tryd.ntmps67
    go_wp2
    go_ret
    exact ⟨ret_bool (by rw [HD.out]; exact (decide_eq_false (by omega)).symm), rfl⟩
theorem pthere_is (r : Bool) (f n : Int) (W : World) (hr : decide (thereI f n) = r) :
    Calls Tryd.prog 67 #[.int .i64 f, .int .i64 n] W fun e w' => e = .returned (.bool r) ∧ W = w' := by
  subst hr; exact pthere f n W

section
variable {lo hi g p : Nat} {W : World} {c most peak : Int} {ws : List Nat}

theorem pused (h : PgIs lo hi g p W c most peak ws) :
    Calls Tryd.prog 69 #[.pointer (some ⟨p, 0, none⟩)] W fun e w' => e = .returned (.int .i64 c) ∧ W = w' := by
  obtain ⟨h1, _, _, h5, h6, h7, h8⟩ := h
  have H := Lib.hid h1; clear h1
  go_enter Tryd.func69, Tryd.ntmps69
  go_wp2_with fail
  refine (scount_any _ _ _ _ _ _ _ H.out).mono ?_
  rintro e w' ⟨rfl, rfl⟩
  go_wp2
  go_ret
  exact ⟨rfl, rfl⟩
theorem pwhole (r : Bool) (f n : Int) (h : PgIs lo hi g p W c most peak ws) (hr : (decide (1 ≤ n ∧ 0 ≤ f ∧ f ≤ 1024 - n) && wholeB ws f.toNat n.toNat) = r) :
    Calls Tryd.prog 93 #[.pointer (some ⟨p, 0, none⟩), .int .i64 f, .int .i64 n] W fun e w' => e = .returned (.bool r) ∧ W = w' := by
  obtain ⟨h1, _, _, h5, h6, h7, h8⟩ := h
  have H := Lib.hid h1; clear h1
  by_cases hn : 1 ≤ n
  · have hr2 : (decide (0 ≤ f ∧ 0 ≤ n ∧ n ≤ 1024 ∧ f ≤ 1024 - n) && wholeB ws f.toNat n.toNat) = r := by
      rw [← hr]
      congr 1
      rw [decide_eq_decide]
      omega
    have HR := Lib.hid hr2; clear hr hr2
    go_enter Tryd.func93, Tryd.ntmps93
    go_wp2_with fail
    refine (swhole_is r _ _ _ _ _ _ _ _ _ H.out HR.out).mono ?_
    rintro e w' ⟨rfl, rfl⟩
    go_wp2
    go_ret
    exact ⟨rfl, rfl⟩
  · have hr2 : r = false := by rw [← hr, decide_eq_false (by omega)]; rfl
    subst hr2
    clear hr
    go_enter Tryd.func93, Tryd.ntmps93
    go_wp2
    go_ret
    exact ⟨rfl, rfl⟩
theorem plist (h : PgIs lo hi g p W c most peak ws) (hz : ∀ y, 1024 ≤ y → bitB ws y = false) (ht : TzTab W) :
    Calls Tryd.prog 60 #[.pointer (some ⟨p, 0, none⟩)] W (ListPost (listB ws 1024) W) := by
  obtain ⟨h1, _, _, h5, h6, h7, h8⟩ := h
  have H := Lib.hid h1; clear h1
  have HZ := Lib.hid hz; clear hz
  have T := Lib.hid ht; clear ht
  go_enter Tryd.func60, Tryd.ntmps60
  go_wp2_with fail
  refine (slist_any _ _ _ _ _ 1024 _ H.out HZ.out T.out).mono ?_
  rintro e w' ⟨a, cap, rfl, hx, hb⟩
  have HX := Lib.hid hx; clear hx
  go_wp2
  go_ret
  exact ⟨a, cap, rfl, HX.out, hb⟩
theorem pmap_in (f n : Int) (h : PgIs lo hi g p W c most peak ws) (hn : ¬ thereI f n) :
    Calls Tryd.prog 48 #[.pointer (some ⟨p, 0, none⟩), .int .i64 f, .int .i64 n] W fun e w' => e = .returned (.int .i64 1) ∧ W = w' := by
  have HN := Lib.hid hn; clear hn h
  go_enter Tryd.func48, Tryd.ntmps48
  go_wp2_with fail
  refine (pthere_is false _ _ _ (decide_eq_false HN.out)).mono ?_
  rintro e w' ⟨rfl, rfl⟩
  go_wp2
  go_ret
  exact ⟨rfl, rfl⟩
theorem some_there {f n : Int} {r : Bool} (hn : thereI f n) (h : SomeR 1024 f n ws r) : r = true ↔ ∃ y : Nat, f ≤ y ∧ (y : Int) < f + n ∧ bitB ws y = true := by
  unfold SomeR sendI at h
  unfold thereI at hn
  rw [if_pos (by omega), show min n (1024 - f) = n by omega] at h
  rw [h]
  exact ⟨fun q => q.2, fun q => ⟨hn.1, q⟩⟩
theorem pmap_mapped (f n : Int) (h : PgIs lo hi g p W c most peak ws) (hn : thereI f n) (hb : ∃ y : Nat, f ≤ y ∧ (y : Int) < f + n ∧ bitB ws y = true) (ht : TzTab W) :
    Calls Tryd.prog 48 #[.pointer (some ⟨p, 0, none⟩), .int .i64 f, .int .i64 n] W fun e w' => e = .returned (.int .i64 5) ∧ W = w' := by
  obtain ⟨h1, _, _, h5, h6, h7, h8⟩ := h
  have H := Lib.hid h1; clear h1
  have HN := Lib.hid hn; have HB := Lib.hid hb; have T := Lib.hid ht
  clear hn hb ht
  go_enter Tryd.func48, Tryd.ntmps48
  go_wp2_with fail
  refine (pthere_is true _ _ _ (decide_eq_true HN.out)).mono ?_
  rintro e w' ⟨rfl, rfl⟩
  go_wp2_with fail
  refine (ssome_any _ _ _ _ _ _ _ _ _ H.out T.out).mono ?_
  rintro e w' ⟨rfl, r, rfl, hr⟩
  obtain rfl : r = true := (some_there HN.out hr).2 HB.out
  clear hr
  go_wp2
  go_ret
  exact ⟨rfl, rfl⟩

theorem pg_set {v : Int} (h : PgIs lo hi g p W c most peak ws) (hv : 0 ≤ v ∧ v ≤ 1024) : PgIs lo hi g p (W.setCell ⟨p, 2, none⟩ (.int .i64 v)) c most v ws := by
  obtain ⟨h1, ⟨h2, h3⟩, ⟨b1, b2, b3, b4, b5, b6⟩, h5, h6, h7, h8⟩ := h
  refine ⟨h1.keep (by rw [size_set]; exact Nat.le_refl _) (fun i i1 i2 => heap_other _ _ _ i (by intro e; simp at e; omega)), ⟨h2, by rw [size_set]; exact h3⟩, ⟨b1, b2, b3, b4, hv.1, hv.2⟩, ?_, ?_, ?_, ?_⟩
  · rw [World.cell?_setCell_other _ _ _ _ (by intro e; injection e with _ e; omega)]; exact h5
  · rw [World.cell?_setCell_other _ _ _ _ (by intro e; injection e with _ e; omega)]; exact h6
  · exact World.cell?_setCell_same _ _ _ h7
  · simp [h8]
theorem only_set {o : Nat} {v : Value} {W2 : World} (h : Only lo hi W W2) (hl : lo ≤ hi ∧ hi ≤ p) : Only lo (p + 1) W (W2.setCell ⟨p, o, none⟩ v) :=
  Only.set_ ⟨h.1, h.2.1, fun i hi => h.2.2 i (by omega)⟩ v (by show lo ≤ p; omega) (by show p < p + 1; omega)

def PMapPost (lo hi g p : Nat) (W : World) (c most peak : Int) (ws : List Nat) (f n : Int) (e : Ending) (w' : World) : Prop :=
  (most - c < n ∧ e = .returned (.int .i64 6) ∧ ∃ q, w' = W.drewN q) ∨
  (n ≤ most - c ∧ e = .returned (.int .i64 0) ∧ PgIs lo hi g p w' (c + n) most (max peak (c + n)) (putN ws f.toNat n.toNat).1 ∧ Only lo (p + 1) W w')
set_option maxHeartbeats 1600000 in
theorem pmap_free (f n : Int) (h : PgIs lo hi g p W c most peak ws) (hn : thereI f n) (hb : ∀ y : Nat, f ≤ y → (y : Int) < f + n → bitB ws y = false) (ht : TzTab W) :
    Calls Tryd.prog 48 #[.pointer (some ⟨p, 0, none⟩), .int .i64 f, .int .i64 n] W (PMapPost lo hi g p W c most peak ws f n) := by
  have HP := Lib.hid h
  obtain ⟨h1, ⟨hp1, hp2⟩, ⟨b1, b2, b3, b4, b5, b6⟩, h5, h6, h7, h8⟩ := h
  have H := Lib.hid h1; clear h1
  have HN := Lib.hid hn; have HB := Lib.hid hb; have T := Lib.hid ht
  have hn2 : 0 ≤ f ∧ f < 1024 ∧ 1 ≤ n ∧ n ≤ 1024 - f := hn
  obtain ⟨n1, n2, n3, n4⟩ := hn2
  clear hn hb ht
  have HU := Lib.hid (fun q => pused (W := W.drewN q) (lo := lo) (hi := hi) (g := g) (p := p) (c := c) (most := most) (peak := peak) (ws := ws) HP.out)
  go_enter Tryd.func48, Tryd.ntmps48
  go_wp2_with fail
  refine (pthere_is true _ _ _ (decide_eq_true HN.out)).mono ?_
  rintro e w' ⟨rfl, rfl⟩
  go_wp2_with fail
  refine (ssome_any _ _ _ _ _ _ _ _ _ H.out T.out).mono ?_
  rintro e w' ⟨rfl, r, rfl, hr⟩
  obtain rfl : r = false := by
    cases r with
    | false => rfl
    | true =>
      obtain ⟨y, y1, y2, y3⟩ := (some_there HN.out hr).1 rfl
      rw [HB.out y y1 y2] at y3; cases y3
  clear hr
  go_wp2_with fail
  go_quiet (exact Calls.quiet_of_same ((HU.out _).mono fun _ _ ⟨he, hm⟩ => ⟨he, hm.symm⟩))
  by_cases hmost : most - c < n
  · go_wp2_with fail
    go_ret
    exact .inl ⟨hmost, rfl, _, rfl⟩
  · have hJ : sJ 1024 f n = n.toNat := by unfold sJ sendI; rw [if_pos (by omega)]; omega
    have hcnt : (putN ws f.toNat n.toNat).2 = n := by
      rw [putN_count ws _ _ (by have := H.out.2.1; omega) (fun y y1 y2 => HB.out y (by omega) (by omega))]
      omega
    have HJ := Lib.hid hJ; have HC := Lib.hid hcnt
    clear hJ hcnt
    go_wp2_with fail
    refine (sputall lo hi g _ 1024 c f n ws (show SetIs lo hi g (W.drewN nq) 1024 c ws from H.out) (by omega)).mono ?_
    rintro e v2 ⟨rfl, hs2, ho2⟩
    rw [HJ.out, HC.out] at hs2 ⊢
    have hp := ho2.2.2 p hp1
    have k5 : v2.cell? ⟨p, 0, none⟩ = some (.pointer (some ⟨g, 0, none⟩)) := (World.cell?_of_block hp).trans h5
    have k6 : v2.cell? ⟨p, 1, none⟩ = some (.int .i64 most) := (World.cell?_of_block hp).trans h6
    have k7 : v2.cell? ⟨p, 2, none⟩ = some (.int .i64 peak) := (World.cell?_of_block hp).trans h7
    have k8 : v2.frozen? ⟨p, 2, none⟩ = false := (World.frozen?_of_block hp).trans h8
    have hsz : v2.heap.size = W.heap.size := ho2.2.1
    have ho3 : Only lo hi W v2 := ⟨((Below.refl lo W).trans (below_drewN (Below.refl lo W) nq)).trans ho2.1, ho2.2.1, fun i hi => ho2.2.2 i hi⟩
    have HS2 := Lib.hid hs2; have HO := Lib.hid ho3
    clear hs2 ho2 hp h5 h6 h7 h8 HU ho3
    have hP2 : PgIs lo hi g p v2 (c + n) most peak (putN ws f.toNat n.toNat).1 := ⟨HS2.out, ⟨hp1, by omega⟩, ⟨b1, b2, by omega, by omega, b5, b6⟩, k5, k6, k7, k8⟩
    have HU2 := Lib.hid hP2; clear hP2
    have HUd := Lib.hid (fun (W' : World) (e : W'.heap = v2.heap) => pused (W := W') (HU2.out.keep (by rw [e]; exact Nat.le_refl _) (fun i _ _ => by rw [e])))
    have hmx : (peak ≤ c + n ∧ max peak (c + n) = c + n) ∨ (c + n < peak ∧ max peak (c + n) = peak) := by omega
    go_wp2_with fail
    rcases hmx with ⟨m1, m2⟩ | ⟨m1, m2⟩
    all_goals
      have HM := Lib.hid m2
      clear m2
      go_region_with (go_at_call 69; refine (HUd.out _ (by rfl)).mono ?_; rintro e w' ⟨rfl, rfl⟩)
      all_goals go_wp2
      all_goals
        go_ret
        refine .inr ⟨hmost, rfl, ?_, (only_set (lo := lo) (hi := hi) (p := p) HO.out ⟨by have := H.out.1; omega, hp1⟩).drew⟩
        first
          | (rw [show max peak (c + n) = c + n by omega]; exact pg_set HU2.out (by omega))
          | (rw [show max peak (c + n) = peak by omega]; exact pg_set HU2.out (by omega))
theorem whole_bits {f m : Nat} (h : ∀ y, f ≤ y → y < f + m → bitB ws y = true) : wholeB ws f m = true := by
  induction m with
  | zero => rfl
  | succ m ih => rw [wholeB, ih (fun y a b => h y a (by omega)), h (f + m) (by omega) (by omega)]; rfl
end
end Go.Proofs.YtljjcomedjdpaaaDoor

