/- Contracts of package sweep: New, a register, Step. -/
import Derived.Test.YtljjcomedjdpaaaDoorSwA
import Derived.Test.YtljjcomedjdpaaaDoorLstF
import Derived.Deep.RegionHeld3
import Derived.Deep.DeepCutAuto
namespace Go.Proofs.YtljjcomedjdpaaaDoor
set_option maxRecDepth 100000
open Go.RowKit Go.ChangeMaps Go.MapKept
set_option linter.unusedVariables false
set_option linter.unusedSimpArgs false

theorem Keeps.of_below {g : Nat} {W W' : World} (hg : g ≤ W.heap.size) (hb : Below W.heap.size W W') : Keeps g W W' := ⟨hb.mono hg, fun i hi _ => hb.block i hi⟩
theorem Keeps.after {g : Nat} {W w1 w2 : World} (hg : g ≤ W.heap.size) (hb : Below W.heap.size W w1) (hk : Keeps g w1 w2) : Keeps g W w2 :=
  ⟨(hb.mono hg).trans hk.1, fun i hi hn => (hk.2 i (Nat.lt_of_lt_of_le hi hb.size) hn).trans (hb.block i hi)⟩
def SwNewPost (k : Nat) (l : List Int) (W : World) (e : Ending) (w' : World) : Prop :=
  ∃ s A cp, e = .returned (.pointer (some ⟨s, 0, none⟩)) ∧ SWAt s k A l.length cp 0 0 w' ∧ Ints .i64 w' A l.length l ∧ W.heap.size ≤ s ∧ Below W.heap.size W w'
theorem SWAt.new (W : World) (k n : Nat) (A : Option Addr) (cp : Nat) (T : TypeId) (hk : k ≤ 64) (hn : n ≤ 1024) : SWAt W.heap.size k A n cp 0 0 (W.alloc (.cells #[.int .i64 (k : Int), .slice A n cp, .int .i64 0, .int .i64 0] T)) :=
  ⟨by simp, ⟨by simp, by simp, by simp, by simp⟩, ⟨by simp, by simp⟩, hk, hn, by omega, Nat.le_refl _⟩
/-- What is done behind one: it counts. -/
def bump (s d n : Nat) (r : Bool) (w : World) : World := (if r then w.setCell ⟨s, 3, none⟩ (.int .i64 ((n + 1 : Nat) : Int)) else w).setCell ⟨s, 2, none⟩ (.int .i64 ((d + 1 : Nat) : Int))
def upN (r : Bool) (n : Nat) : Nat := if r then n + 1 else n
theorem bump_size (s d n : Nat) (r : Bool) (w : World) : (bump s d n r w).heap.size = w.heap.size := by
  unfold bump
  cases r <;> simp [World.setCell]
theorem bump_other {s i : Nat} (d n : Nat) (r : Bool) (w : World) (h : i ≠ s) : (bump s d n r w).heap[i]? = w.heap[i]? := by
  unfold bump
  cases r
  · exact Below.heap_setCell _ _ _ _ (by simpa using h)
  · exact (Below.heap_setCell _ _ _ _ (by simpa using h)).trans (Below.heap_setCell _ _ _ _ (by simpa using h))
theorem bump_below {N s : Nat} {V w : World} (d n : Nat) (r : Bool) (h : Below N V w) (hN : N ≤ s) : Below N V (bump s d n r w) := by
  unfold bump
  cases r
  · exact h.setCell hN _
  · exact (h.setCell hN _).setCell hN _
theorem SWAt.bump {s k : Nat} {A : Option Addr} {ln cp d n : Nat} {W : World} (h : SWAt s k A ln cp d n W) (r : Bool) (hd : d < 20000) : SWAt s k A ln cp (d + 1) (upN r n) (bump s d n r W) := by
  obtain ⟨h1, ⟨a, b, c, e⟩, ⟨f, g⟩, h5, h6, h7, h8⟩ := h
  refine ⟨by rw [bump_size]; exact h1, ?_, ?_, h5, h6, by omega, by unfold upN; split <;> omega⟩
  · have o : ∀ (w : World) (x y : Nat) (v : Value), x ≠ y → (w.setCell ⟨s, y, none⟩ v).cell? ⟨s, x, none⟩ = w.cell? ⟨s, x, none⟩ := fun w x y v hxy => World.cell?_setCell_other _ _ _ _ (by simp [hxy])
    unfold Go.Proofs.YtljjcomedjdpaaaDoor.bump upN
    cases r
    · exact ⟨(o _ _ _ _ (by decide)).trans a, (o _ _ _ _ (by decide)).trans b, World.cell?_setCell_same _ _ _ c, (o _ _ _ _ (by decide)).trans e⟩
    · exact ⟨(o _ _ _ _ (by decide)).trans ((o _ _ _ _ (by decide)).trans a), (o _ _ _ _ (by decide)).trans ((o _ _ _ _ (by decide)).trans b), World.cell?_setCell_same _ _ _ ((o _ _ _ _ (by decide)).trans c), (o _ _ _ _ (by decide)).trans (World.cell?_setCell_same _ _ _ e)⟩
  · unfold Go.Proofs.YtljjcomedjdpaaaDoor.bump
    cases r
    · refine ⟨?_, ?_⟩ <;> simp [f, g]
    · refine ⟨?_, ?_⟩ <;> simp [f, g]
section
variable {B : Nat} {col : Nat → Nat} {M R g k : Nat} {W : World} {σ : MS} {f : Nat → CapV}
theorem swnew (hm : MEM B col M W σ) (hz : ∀ y, 1024 ≤ y → σ.pg y = false) (hr : RegAt R g k W (CV f)) :
    Calls Tryd.prog 13 #[.pointer (some ⟨M, 0, none⟩), .pointer (some ⟨R, 0, none⟩)] W (SwNewPost k (listF σ.pg 1024) W) := by
  have HM := Lib.hid hm
  have HZ := Lib.hid hz
  have HR := Lib.hid hr
  have hk64 : k ≤ 64 := hr.2.2.2.1
  have hl := listF_len σ.pg 1024
  clear hm hz hr
  go_enter Tryd.func13, Tryd.ntmps13
  go_wp2_with fail
  refine (rlen_any R g k _ _ HR.out).mono ?_
  rintro e w1 ⟨rfl, rfl⟩
  go_wp2_with fail
  refine (mlist HM.out HZ.out).mono ?_
  rintro e w2 ⟨A, cp, rfl, hi, hb⟩
  have HI := Lib.hid hi
  obtain ⟨n, hn⟩ : ∃ n, (listF σ.pg 1024).length = n := ⟨_, rfl⟩
  rw [hn] at HI hl ⊢
  have HN := Lib.hid hn
  have HB := Lib.hid hb
  clear hi hn hb
  go_wp2_with fail
  go_ret
  exact ⟨w2.heap.size, A, cp, rfl, by rw [HN.out]; exact SWAt.new w2 k n A cp _ hk64 hl, by rw [HN.out]; exact HI.out.below (alc0 _ _), HB.out.size, thn HB.out (alc0 _ _)⟩
end
/-- A register is swept. -/
theorem sone_reg (s k : Nat) (A : Option Addr) (ln cp d n M R g P lo hi gp : Nat) (W : World) (f : Nat → CapV) (c : Int) (ws : List Nat) (r : Bool) (hs : SWAt s k A ln cp d n W) (hr : RegAt R g k W (CV f)) (hp : PtIs lo hi gp P W c ws) (ht : TzTab W) (hd : d < k) (hv : (f d).v = true → SomeR 16384 (spF (f d).b (f d).l 16) (spN (f d).b (f d).l 16) ws r) (hn : (f d).v = false → r = false) :
    Calls Tryd.prog 39 #[.pointer (some ⟨s, 0, none⟩), .pointer (some ⟨M, 0, none⟩), .pointer (some ⟨R, 0, none⟩), .pointer (some ⟨P, 0, none⟩)] W fun e w' => e = .returned (.bool r) ∧ RegAt R g k w' (CV (if r then updC f d cap0 else f)) ∧ Keeps g W w' := by
  have HS := Lib.hid hs
  have HR := Lib.hid hr
  have HP := Lib.hid hp
  have HT := Lib.hid ht
  have HV := Lib.hid hv
  have HD := Lib.hid hd
  obtain ⟨b0, l0, c0, p0, t0, v0, hf0⟩ : ∃ b l c p t v, f d = ⟨b, l, c, p, t, v⟩ := ⟨_, _, _, _, _, _, rfl⟩
  have HF := Lib.hid hf0
  have hdI : (d : Int) < (k : Int) := by omega
  have hg : g ≤ W.heap.size := Nat.le_of_lt hr.2.1
  have HG := Lib.hid hg
  rw [hf0] at HV hn
  have HN := Lib.hid hn
  clear hs hr hp ht hv hd hf0 hg hn
  go_enter Tryd.func39, Tryd.ntmps39
  go_upto_region 1 with (fail)
  have HTAKE := Lib.hid (fun (w' : World) (h : SWAt s k A ln cp d n w') => h.2.1)
  refine wp_region_held_drew (S := fun w' => SWAt s k A ln cp d n w') (by kernel_rfl) ?_ (fun hHeld => ?_)
  · exact HS.out.below (Below.refl _ _).drew
  refine wpAnyH_take (i := 0) (v := ?_) rfl (by kernel_rfl) (by kernel_rfl) (by kernel_rfl) (fun _ _ _ h => h) (Or.inl ⟨by kernel_rfl, ?_⟩) (by assumption) ?_
  rotate_left
  · (intro w hSw; (try dsimp only at hSw); (try have hTk := Hid.out HTAKE _ hSw); go_simp)
    try (with_reducible rfl)
  rotate_left
  try simp (maxSteps := 4000000) only [Act.put, List.setIfInBounds_toArray, List.set_cons_zero, List.set_cons_succ, List.getElem_toArray, List.getElem_cons_zero, List.getElem_cons_succ]
  refine wpAnyH_take (i := 1) (v := ?_) rfl (by kernel_rfl) (by kernel_rfl) (by kernel_rfl) (fun _ _ _ h => h) (Or.inl ⟨by kernel_rfl, ?_⟩) (by assumption) ?_
  rotate_left
  · (intro w hSw; (try dsimp only at hSw); (try have hTk := Hid.out HTAKE _ hSw); go_simp)
    try (with_reducible rfl)
  rotate_left
  try simp (maxSteps := 4000000) only [Act.put, List.setIfInBounds_toArray, List.set_cons_zero, List.set_cons_succ, List.getElem_toArray, List.getElem_cons_zero, List.getElem_cons_succ]
  refine wpAnyH_take (i := 2) (v := ?_) rfl (by kernel_rfl) (by kernel_rfl) (by kernel_rfl) (fun _ _ _ h => h) (Or.inl ⟨by kernel_rfl, ?_⟩) (by assumption) ?_
  rotate_left
  · (intro w hSw; (try dsimp only at hSw); (try have hTk := Hid.out HTAKE _ hSw); go_simp)
    try (with_reducible rfl)
  rotate_left
  try simp (maxSteps := 4000000) only [Act.put, List.setIfInBounds_toArray, List.set_cons_zero, List.set_cons_succ, List.getElem_toArray, List.getElem_cons_zero, List.getElem_cons_succ]
  refine wpAnyH_take (i := 3) (v := ?_) rfl (by kernel_rfl) (by kernel_rfl) (by kernel_rfl) (fun _ _ _ h => h) (Or.inl ⟨by kernel_rfl, ?_⟩) (by assumption) ?_
  rotate_left
  · (intro w hSw; (try dsimp only at hSw); (try have hTk := Hid.out HTAKE _ hSw); go_simp)
    try (with_reducible rfl)
  rotate_left
  try simp (maxSteps := 4000000) only [Act.put, List.setIfInBounds_toArray, List.set_cons_zero, List.set_cons_succ, List.getElem_toArray, List.getElem_cons_zero, List.getElem_cons_succ]
  refine wpAnyH_take (i := 4) (v := ?_) rfl (by kernel_rfl) (by kernel_rfl) (by kernel_rfl) (fun _ _ _ h => h) (Or.inl ⟨by kernel_rfl, ?_⟩) (by assumption) ?_
  rotate_left
  · (intro w hSw; (try dsimp only at hSw); (try have hTk := Hid.out HTAKE _ hSw); go_simp)
    try (with_reducible rfl)
  rotate_left
  try simp (maxSteps := 4000000) only [Act.put, List.setIfInBounds_toArray, List.set_cons_zero, List.set_cons_succ, List.getElem_toArray, List.getElem_cons_zero, List.getElem_cons_succ]
  refine wpAnyH_take (i := 5) (v := ?_) rfl (by kernel_rfl) (by kernel_rfl) (by kernel_rfl) (fun _ _ _ h => h) (Or.inl ⟨by kernel_rfl, ?_⟩) (by assumption) ?_
  rotate_left
  · (intro w hSw; (try dsimp only at hSw); (try have hTk := Hid.out HTAKE _ hSw); go_simp)
    try (with_reducible rfl)
  rotate_left
  try simp (maxSteps := 4000000) only [Act.put, List.setIfInBounds_toArray, List.set_cons_zero, List.set_cons_succ, List.getElem_toArray, List.getElem_cons_zero, List.getElem_cons_succ]
  refine wpAnyH_take (i := 6) (v := ?_) rfl (by kernel_rfl) (by kernel_rfl) (by kernel_rfl) (fun _ _ _ h => h) (Or.inl ⟨by kernel_rfl, ?_⟩) (by assumption) ?_
  rotate_left
  · (intro w hSw; (try dsimp only at hSw); (try have hTk := Hid.out HTAKE _ hSw); go_simp)
    try (with_reducible rfl)
  rotate_left
  try simp (maxSteps := 4000000) only [Act.put, List.setIfInBounds_toArray, List.set_cons_zero, List.set_cons_succ, List.getElem_toArray, List.getElem_cons_zero, List.getElem_cons_succ]
  refine wpAnyH_take (i := 7) (v := ?_) rfl (by kernel_rfl) (by kernel_rfl) (by kernel_rfl) (fun _ _ _ h => h) (Or.inl ⟨by kernel_rfl, ?_⟩) (by assumption) ?_
  rotate_left
  · (intro w hSw; (try dsimp only at hSw); (try have hTk := Hid.out HTAKE _ hSw); go_simp)
    try (with_reducible rfl)
  rotate_left
  try simp (maxSteps := 4000000) only [Act.put, List.setIfInBounds_toArray, List.set_cons_zero, List.set_cons_succ, List.getElem_toArray, List.getElem_cons_zero, List.getElem_cons_succ]
  refine wpAnyH_take (i := 8) (v := ?_) rfl (by kernel_rfl) (by kernel_rfl) (by kernel_rfl) (fun _ _ _ h => h) (Or.inl ⟨by kernel_rfl, ?_⟩) (by assumption) ?_
  rotate_left
  · (intro w hSw; (try dsimp only at hSw); (try have hTk := Hid.out HTAKE _ hSw); go_simp)
    try (with_reducible rfl)
  rotate_left
  try simp (maxSteps := 4000000) only [Act.put, List.setIfInBounds_toArray, List.set_cons_zero, List.set_cons_succ, List.getElem_toArray, List.getElem_cons_zero, List.getElem_cons_succ]
  refine wpAnyH_done (by kernel_rfl) ?_ _
  clear hHeld HTAKE
  have HB1 : Hid (Below W.heap.size W W.drew) := Lib.hid (Below.refl _ _).drew
  have HS1 := Lib.hid (HS.out.below HB1.out)
  have HR1 := Lib.hid (HR.out.below HB1.out)
  generalize W.drew = w1 at *
  obtain ⟨h1, ⟨q0, q1, q2, q3⟩, -, -, -, -, -⟩ := HS1.out
  go_wp2_with fail
  refine (cget R g k d _ f HR1.out HD.out).mono ?_
  rw [HF.out]
  rintro e w2 ⟨rfl, hb2⟩
  have HB2 := Lib.hid (thn HB1.out hb2)
  clear hb2 q0 q1 q2 q3 h1
  go_upto_region 3 with (fail)
  have hal := alc0 w2 (.cells #[.int .i64 b0, .int .i64 l0, .int .i64 c0, .int .i64 p0, .int .i64 t0, .bool v0] 37)
  have HX3 := Lib.hid (CapAt.new w2 b0 l0 c0 p0 t0 v0 37)
  have HB3 := Lib.hid (thn HB2.out hal)
  clear hal HB2 HB1 HS1 HR1
  generalize hw3 : w2.alloc (.cells #[.int .i64 b0, .int .i64 l0, .int .i64 c0, .int .i64 p0, .int .i64 t0, .bool v0] 37) = w3 at *
  clear hw3
  generalize w2.heap.size = x9 at *
  obtain ⟨-, z0, z1, z2, z3, z4, z5, -⟩ := HX3.out
  cases v0 with
  | false =>
    obtain rfl : r = false := HN.out rfl
    go_wp2_with fail
    go_ret
    exact ⟨rfl, HR.out.below HB3.out, Keeps.of_below HG.out HB3.out⟩
  | true =>
    have HS9 : Hid (SomeR 16384 (spF b0 l0 16) (spN b0 l0 16) ws r) := Lib.hid (HV.out rfl)
    go_wp2_with fail
    refine (capspan_any b0 l0 c0 p0 t0 true _).mono ?_
    rintro e w4 ⟨rfl, hb4⟩
    have HB4 := Lib.hid (thn HB3.out hb4)
    clear hb4 z0 z1 z2 z3 z4 z5
    go_wp2_with fail
    refine (ptsome b0 l0 r (HP.out.below HB4.out HP.out.2.1.2 HB4.out.size) HS9.out (HT.out.later HB4.out)).mono ?_
    rintro e w5 ⟨rfl, hb5⟩
    have HB5 := Lib.hid (thn HB4.out hb5)
    clear hb5
    have HS5 := Lib.hid (HS.out.below HB5.out)
    obtain ⟨h1, ⟨q0, q1, q2, q3⟩, -, -, -, -, -⟩ := HS5.out
    cases r with
    | false =>
      go_wp2_with fail
      go_ret
      exact ⟨rfl, HR.out.below HB5.out, Keeps.of_below HG.out HB5.out⟩
    | true =>
      go_wp2_with fail
      refine (cclear_yes R g k d _ f (HR.out.below HB5.out) HD.out (by rw [HF.out])).mono ?_
      rintro e w6 ⟨rfl, hr6, hk6⟩
      have HR6 := Lib.hid hr6
      have HK6 := Lib.hid hk6
      clear hr6 hk6
      go_wp2_with fail
      go_ret
      exact ⟨rfl, HR6.out, Keeps.after HG.out HB5.out HK6.out⟩
/-- What is behind one step of a sweep, whatever its state is. -/
def Mid (s : Nat) (I : Nat → Nat → World → Prop) (d n : Nat) (e : Ending) (w' : World) : Prop := ∃ r : Bool, e = .returned (.bool r) ∧ I (d + 1) (upN r n) (bump s d n r w')
theorem sstep (s k : Nat) (A : Option Addr) (ln cp M R P wk d T : Nat) (n : Nat) (most : Int) (W : World) (I : Nat → Nat → World → Prop) (hsw : ∀ d n w, I d n w → SWAt s k A ln cp d n w) (hwk : k + 16 * ln = wk) (hbel : ∀ d n w w', I d n w → Below w.heap.size w w' → I d n w')
    (hone : ∀ d n w, I d n w → d < wk → Calls Tryd.prog 39 #[.pointer (some ⟨s, 0, none⟩), .pointer (some ⟨M, 0, none⟩), .pointer (some ⟨R, 0, none⟩), .pointer (some ⟨P, 0, none⟩)] w (fun e w' => SWAt s k A ln cp d n w' ∧ Mid s I d n e w'))
    (h0 : I d n W) (hd : d ≤ wk) (h1 : 1 ≤ most) (hT : (T : Int) = min most ((wk : Int) - d)) :
    Calls Tryd.prog 16 #[.pointer (some ⟨s, 0, none⟩), .pointer (some ⟨M, 0, none⟩), .pointer (some ⟨R, 0, none⟩), .pointer (some ⟨P, 0, none⟩), .int .i64 most] W fun e w' => e = .returned (.int .i64 (T : Int)) ∧ ∃ n', I (d + T) n' w' := by
  have HSW := Lib.hid hsw
  have HWK := Lib.hid hwk
  have HBEL := Lib.hid hbel
  have HONE := Lib.hid hone
  have HI := Lib.hid h0
  have HT := Lib.hid hT
  have hbig : wk ≤ 20000 := by have h := hsw _ _ _ h0; obtain ⟨-, -, -, q1, q2, -⟩ := h; omega
  have HBIG := Lib.hid hbig
  have n1 : ¬ most < 1 := by omega
  clear hsw hwk hbel hone h0 hT hbig
  go_enter Tryd.func16, Tryd.ntmps16
  go_wp2_with fail
  go_loopw [11] (fun v11 wr => ∃ (x n' : Nat), x ≤ T ∧ v11 = .int .i64 x ∧ Hid (I (d + x) n' wr)) (fun v11 _ => T - (intOf v11).toNat)
  case atStart => exact ⟨0, n, by omega, rfl, HI⟩
  case round =>
    clear HI
    obtain ⟨x, n', hx, rfl, HI⟩ := hrel
    by_cases hxT : x < T
    · have HXT := Lib.hid hxT
      have hlt : (x : Int) < most := by have := HT.out; omega
      have hnw : decide (wk ≤ d + x) = false := by have := HT.out; simp; omega
      have HNW := Lib.hid hnw
      have hdx : d + x < wk := by have := HT.out; omega
      have HDX := Lib.hid hdx
      clear hnw hdx
      have hx20 : x < 20000 := by have := HDX.out; have := HBIG.out; omega
      go_wp2_with fail
      refine (sover wk false (HSW.out _ _ _ HI.out) HWK.out HNW.out).mono ?_
      rintro e w1 ⟨rfl, hb⟩
      have HI1 := Lib.hid (HBEL.out _ _ _ _ HI.out hb)
      clear hb HI
      go_wp2_with fail
      refine (HONE.out _ _ _ HI1.out HDX.out).mono ?_
      rintro e w2 ⟨hs2, r, rfl, hI2⟩
      have HI2 := Lib.hid hI2
      obtain ⟨k1, ⟨q0, q1, q2, q3⟩, ⟨f2, f3⟩, -, -, hle, hle2⟩ := hs2
      have wD : IntKind.i64.wrap (((d + x : Nat) : Int) + 1) = ((d + x + 1 : Nat) : Int) := by rw [IntWalk.i64_in _ (by omega)]; omega
      have wN : IntKind.i64.wrap ((n' : Int) + 1) = ((n' + 1 : Nat) : Int) := by rw [IntWalk.i64_in _ (by omega)]; omega
      clear hI2 hle hle2 HI1 HNW
      obtain ⟨D, hD⟩ : ∃ D, d + x = D := ⟨_, rfl⟩
      obtain ⟨D1, hD1⟩ : ∃ D1 : Int, ((d + x + 1 : Nat) : Int) = D1 := ⟨_, rfl⟩
      obtain ⟨N1, hN1⟩ : ∃ N1 : Int, ((n' + 1 : Nat) : Int) = N1 := ⟨_, rfl⟩
      have HD := Lib.hid (And.intro hD (And.intro hD1 hN1))
      rw [hD1] at wD
      rw [hN1] at wN
      rw [hD] at q2 wD
      clear hD hD1 hN1
      cases r with
      | true =>
        have HI3 : Hid (I (d + (x + 1)) (upN true n') ((w2.setCell ⟨s, 3, none⟩ (.int .i64 N1)).setCell ⟨s, 2, none⟩ (.int .i64 D1))) := Lib.hid (by rw [← HD.out.2.1, ← HD.out.2.2]; exact HI2.out)
        clear HI2
        go_wp2_with fail
        go_roundw
        case rel => exact ⟨x + 1, _, by have := HXT.out; omega, by go_num, HI3⟩
        case measure => simp [intOf]; have := HXT.out; omega
      | false =>
        have HI3 : Hid (I (d + (x + 1)) (upN false n') (w2.setCell ⟨s, 2, none⟩ (.int .i64 D1))) := Lib.hid (by rw [← HD.out.2.1]; exact HI2.out)
        clear HI2
        go_wp2_with fail
        go_roundw
        case rel => exact ⟨x + 1, _, by have := HXT.out; omega, by go_num, HI3⟩
        case measure => simp [intOf]; have := HXT.out; omega
    · have hxe : T = x := by omega
      have HXE := Lib.hid hxe
      clear hxT hx
      by_cases hlt : (x : Int) < most
      · have hnw : decide (wk ≤ d + x) = true := by have := HT.out; have := HXE.out; simp; omega
        have HNW := Lib.hid hnw
        clear hnw
        go_wp2_with fail
        refine (sover wk true (HSW.out _ _ _ HI.out) HWK.out HNW.out).mono ?_
        rintro e w1 ⟨rfl, hb⟩
        have HI1 := Lib.hid (HBEL.out _ _ _ _ HI.out hb)
        clear hb HI
        go_wp2_with fail
        go_ret
        exact ⟨by first | rfl | (rw [HXE.out]; rfl), n', by first | exact HI1.out | (rw [HXE.out]; exact HI1.out)⟩
      · go_wp2_with fail
        go_ret
        exact ⟨by first | rfl | (rw [HXE.out]; rfl), n', by first | exact HI.out | (rw [HXE.out]; exact HI.out)⟩
end Go.Proofs.YtljjcomedjdpaaaDoor

