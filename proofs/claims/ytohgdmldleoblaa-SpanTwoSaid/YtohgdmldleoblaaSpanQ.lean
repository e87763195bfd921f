/- span.Cut, and what SpanTwo counts. -/
import Derived.Test.YtohgdmldleoblaaSpanV
import Derived.Test.YtohgdmldleoblaaSpanH
import Derived.Deep.RegionHeld3
import Derived.Deep.CutBlock
import Derived.Deep.DeepCutAuto
import Derived.BigQuiet
import Derived.Laws.StructEq
namespace Go.Proofs.Ytohgdmldleoblaa
open Go.RowKit
set_option linter.unusedVariables false
set_option linter.unusedSimpArgs false

/-- A struct in block x. -/
def SpAt (x : Nat) (W : World) (b : Int) (l : Int) : Prop :=
  x < W.heap.size ∧ W.cell? ⟨x, 0, none⟩ = some (.int .i64 b) ∧ W.cell? ⟨x, 1, none⟩ = some (.int .i64 l) ∧ ∀ o, o < 2 → W.frozen? ⟨x, o, none⟩ = false
theorem SpAt.keep {x : Nat} {W W' : World} {b : Int} {l : Int} (h : SpAt x W b l) (hs : W.heap.size ≤ W'.heap.size) (hk : W'.heap[x]? = W.heap[x]?) : SpAt x W' b l := by
  obtain ⟨h0, h1, h2, hf⟩ := h
  have e : ∀ o, W'.cell? ⟨x, o, none⟩ = W.cell? ⟨x, o, none⟩ := fun o => World.cell?_of_block hk
  exact ⟨Nat.lt_of_lt_of_le h0 hs, (e 0).trans h1, (e 1).trans h2, fun o ho => (World.frozen?_of_block hk).trans (hf o ho)⟩
theorem SpAt.below {x : Nat} {W W' : World} {b : Int} {l : Int} (h : SpAt x W b l) (hb : Below W.heap.size W W') : SpAt x W' b l := h.keep hb.size (hb.block x h.1)
theorem SpAt.far {x y o : Nat} {W : World} {b : Int} {l : Int} {z : Value} (h : SpAt x W b l) (hn : x ≠ y) : SpAt x (W.setCell ⟨y, o, none⟩ z) b l :=
  h.keep (by simp [World.setCell]) (Below.heap_setCell _ _ _ _ (by simpa using hn))
theorem SpAt.new (W : World) (b : Int) (l : Int) (T : TypeId) : SpAt W.heap.size (W.alloc (.cells #[.int .i64 b, .int .i64 l] T)) b l := by
  refine ⟨by simp, by simp, by simp, fun o ho => ?_⟩
  simp
theorem SpAt.s0 {x : Nat} {W : World} {b : Int} {l : Int} (h : SpAt x W b l) (b' : Int) : SpAt x (W.setCell ⟨x, 0, none⟩ (.int .i64 b')) b' l := by
  obtain ⟨h0, h1, h2, hf⟩ := h
  exact ⟨by simp [World.setCell]; exact h0, (World.cell?_setCell_same _ _ _ h1), (World.cell?_setCell_other _ _ _ _ (by simp)).trans h2, fun o ho => by simp [hf o ho]⟩
theorem SpAt.s1 {x : Nat} {W : World} {b : Int} {l : Int} (h : SpAt x W b l) (l' : Int) : SpAt x (W.setCell ⟨x, 1, none⟩ (.int .i64 l')) b l' := by
  obtain ⟨h0, h1, h2, hf⟩ := h
  exact ⟨by simp [World.setCell]; exact h0, (World.cell?_setCell_other _ _ _ _ (by simp)).trans h1, (World.cell?_setCell_same _ _ _ h2), fun o ho => by simp [hf o ho]⟩

/-- Four stretches in blocks n, n + 1, n + 2, n + 3. -/
def SpQ (n : Nat) (W : World) (a0 a1 b0 b1 a b c d : Int) : Prop := SpAt n W a0 a1 ∧ SpAt (n + 1) W b0 b1 ∧ SpAt (n + 2) W a b ∧ SpAt (n + 3) W c d
theorem SpQ.below {n : Nat} {W W' : World} {a0 a1 b0 b1 a b c d : Int} (h : SpQ n W a0 a1 b0 b1 a b c d) (hb : Below W.heap.size W W') : SpQ n W' a0 a1 b0 b1 a b c d :=
  ⟨h.1.below hb, h.2.1.below hb, h.2.2.1.below hb, h.2.2.2.below hb⟩

theorem sp_three (a b c d : Int) (w W : World) (h : ((w.alloc (.cells #[.int .i64 a, .int .i64 b] 23)).alloc (.cells #[.int .i64 c, .int .i64 d] 23)).alloc (.cells #[.int .i64 0, .int .i64 0] 23) = W) :
    SpAt w.heap.size W a b ∧ SpAt (w.heap.size + 1) W c d ∧ SpAt (w.heap.size + 1 + 1) W 0 0 ∧ Below w.heap.size w W := by
  subst h
  have h1 := SpAt.new w a b 23
  have h2 := SpAt.new (w.alloc (.cells #[.int .i64 a, .int .i64 b] 23)) c d 23
  have h3 := SpAt.new ((w.alloc (.cells #[.int .i64 a, .int .i64 b] 23)).alloc (.cells #[.int .i64 c, .int .i64 d] 23)) 0 0 23
  simp only [World.size_alloc] at h2 h3
  exact ⟨(h1.below (alc0 _ _)).below (alc0 _ _), h2.below (alc0 _ _), h3, alc (alc (alc0 _ _) _) _⟩
set_option maxHeartbeats 800000 in
theorem cut_no (a b c d : Int) (w : World) (h : meetsB a b c d = false) :
    Calls Try.prog 12 #[.agg #[.int .i64 a, .int .i64 b], .agg #[.int .i64 c, .int .i64 d]] w fun e w' => e = .returned (.tuple #[.agg #[.int .i64 0, .int .i64 0], .bool false]) ∧ Below w.heap.size w w' := by
  have H := Lib.hid h; clear h
  go_enter Try.func12, Try.ntmps12
  go_upto_region 1 with (fail)
  obtain ⟨wb, hwb⟩ : ∃ wb, ((w.alloc (.cells #[.int .i64 a, .int .i64 b] 23)).alloc (.cells #[.int .i64 c, .int .i64 d] 23)).alloc (.cells #[.int .i64 0, .int .i64 0] 23) = wb := ⟨_, rfl⟩
  obtain ⟨hA, hB, hC, hbel⟩ := sp_three a b c d w wb hwb
  rw [hwb]; clear hwb
  obtain ⟨p, hp⟩ : ∃ p, w.heap.size + 1 + 1 = p := ⟨_, rfl⟩
  obtain ⟨_, x0, x1, xf⟩ := hA
  obtain ⟨_, y0, y1, yf⟩ := hB
  have HC := Lib.hid hC; clear hC
  go_wp2_with fail
  refine (meets_is false _ _ _ _ _ H.out).mono ?_
  rintro e w1 ⟨rfl, hb⟩
  have hC1 := HC.out.below hb
  have HB1 := Lib.hid (thn hbel hb)
  clear hb x0 x1 xf y0 y1 yf HC hbel
  have hpw : w.heap.size ≤ p := by omega
  rw [hp] at hC1 ⊢
  have HZ := Lib.hid ((hC1.s0 0).s1 0)
  have HB2 := Lib.hid ((HB1.out.setCell (p := ⟨p, 0, none⟩) hpw (.int .i64 0)).setCell (p := ⟨p, 1, none⟩) hpw (.int .i64 0))
  obtain ⟨_, z0, z1, zf⟩ := hC1
  have hz0 := zf 0 (by omega)
  have hz1 := zf 1 (by omega)
  go_wp2
  obtain ⟨wz, hwz⟩ : ∃ wz, (w1.setCell ⟨p, 0, none⟩ (.int .i64 0)).setCell ⟨p, 1, none⟩ (.int .i64 0) = wz := ⟨_, rfl⟩
  rw [hwz] at HZ HB2 ⊢
  obtain ⟨_, k0, k1, kf⟩ := HZ.out
  refine bodyPost_ret (v := .tuple #[.agg #[.int .i64 0, .int .i64 0], .bool false]) (by simp [results, Try.results12, go_sem, k0, k1]) rfl ⟨rfl, HB2.out⟩

set_option maxHeartbeats 800000 in
theorem cut_yes (a b c d lo hi : Int) (w : World) (h : meetsB a b c d = true) (hlo : (if a < c then c else a) = lo) (hhi : (if c + d < a + b then c + d else a + b) = hi) :
    Calls Try.prog 12 #[.agg #[.int .i64 a, .int .i64 b], .agg #[.int .i64 c, .int .i64 d]] w fun e w' => e = .returned (.tuple #[.agg #[.int .i64 lo, .int .i64 (hi - lo)], .bool true]) ∧ Below w.heap.size w w' := by
  have H := Lib.hid h
  simp only [meetsB, Bool.and_eq_true, decide_eq_true_eq] at h
  obtain ⟨⟨h1, h2⟩, h3⟩ := h
  have H1 := Lib.hid h1; have H2 := Lib.hid h2
  obtain ⟨m1, m2, m3, m4⟩ := mayB_iff.1 h1
  obtain ⟨n1, n2, n3, n4⟩ := mayB_iff.1 h2
  have hw : IntKind.i64.wrap (hi - lo) = hi - lo := IntWalk.i64_in _ (by split at hlo <;> split at hhi <;> omega)
  clear h1 h2 h3
  go_enter Try.func12, Try.ntmps12
  go_upto_region 1 with (fail)
  obtain ⟨wb, hwb⟩ : ∃ wb, ((w.alloc (.cells #[.int .i64 a, .int .i64 b] 23)).alloc (.cells #[.int .i64 c, .int .i64 d] 23)).alloc (.cells #[.int .i64 0, .int .i64 0] 23) = wb := ⟨_, rfl⟩
  obtain ⟨hA, hB, hC, hbel⟩ := sp_three a b c d w wb hwb
  rw [hwb]; clear hwb
  obtain ⟨p, hp⟩ : ∃ p, w.heap.size + 1 + 1 = p := ⟨_, rfl⟩
  have hpw : w.heap.size + 1 < p := by omega
  have HA := Lib.hid hA; have HB := Lib.hid hB
  obtain ⟨_, x0, x1, xf⟩ := hA
  obtain ⟨_, y0, y1, yf⟩ := hB
  have HC := Lib.hid hC; clear hC
  go_wp2_with fail
  refine (meets_is true _ _ _ _ _ H.out).mono ?_
  rintro e w1 ⟨rfl, hb⟩
  have HC1 := Lib.hid (HC.out.below hb)
  have HB1 := Lib.hid (thn hbel hb)
  have hA1 := HA.out.below hb; have hB1 := HB.out.below hb
  clear hb x0 x1 xf y0 y1 yf HC hbel HA HB
  obtain ⟨x9, x0, x1, xf⟩ := hA1
  obtain ⟨y9, y0, y1, yf⟩ := hB1
  rw [hp] at HC1 ⊢
  go_upto_region 3 with (fail)
  go_cut [6, 7] (fun v6 v7 wx => v6 = .int .i64 lo ∧ v7 = .int .i64 hi ∧ Hid (Below w1.heap.size w1 wx))
  case first =>
    go_region_held3 (fun w' => w'.cell? ⟨w.heap.size, 0, none⟩ = some (.int .i64 a) ∧ w'.cell? ⟨w.heap.size, 1, none⟩ = some (.int .i64 b) ∧ w'.cell? ⟨w.heap.size + 1, 0, none⟩ = some (.int .i64 c) ∧ w'.cell? ⟨w.heap.size + 1, 1, none⟩ = some (.int .i64 d) ∧ Below w1.heap.size w1 w' ∧ w.heap.size + 1 < w'.heap.size)
      (first
        | (refine ⟨?_, ?_, ?_, ?_, ?_, ?_⟩ <;> first | exact (Below.refl _ _).drew | (go_keep; done))
        | (go_split_ands
           refine ⟨?_, ?_, ?_, ?_, ?_, ?_⟩
           · (rw [hb.cell (by first | omega | (simp <;> omega))]; assumption)
           · (rw [hb.cell (by first | omega | (simp <;> omega))]; assumption)
           · (rw [hb.cell (by first | omega | (simp <;> omega))]; assumption)
           · (rw [hb.cell (by first | omega | (simp <;> omega))]; assumption)
           · exact Below.trans (by assumption) (hb.mono (by first | omega | (simp <;> omega) | exact Below.size (by assumption)))
           · (have := hb.size; omega)))
      (first | (go_at_call 9; refine (end_is _ _ _ (by first | exact H1.out | exact H2.out)).mono ?_; rintro e w9 ⟨rfl, hb⟩))
    all_goals
      go_split_ands
      go_wp2
      go_meet
      exact ⟨rfl, rfl, Lib.hid (by assumption)⟩
  case rest =>
    obtain ⟨rfl, rfl, HB2⟩ := hcut
    obtain ⟨w2, rfl⟩ : ∃ w2 : World, w2 = wc := ⟨_, rfl⟩
    have hC2 := HC1.out.below HB2.out
    have HB3 := Lib.hid (thn HB1.out HB2.out)
    have hpw2 : w.heap.size ≤ p := by omega
    have HZ := Lib.hid ((hC2.s0 lo).s1 (hi - lo))
    have HB4 := Lib.hid ((HB3.out.setCell (p := ⟨p, 0, none⟩) hpw2 (.int .i64 lo)).setCell (p := ⟨p, 1, none⟩) hpw2 (.int .i64 (hi - lo)))
    obtain ⟨_, z0, z1, zf⟩ := hC2
    have hz0 := zf 0 (by omega)
    have hz1 := zf 1 (by omega)
    clear hlo hhi
    go_wp2
    obtain ⟨wz, hwz⟩ : ∃ wz, (w2.setCell ⟨p, 0, none⟩ (.int .i64 lo)).setCell ⟨p, 1, none⟩ (.int .i64 (hi - lo)) = wz := ⟨_, rfl⟩
    rw [hwz] at HZ HB4 ⊢
    obtain ⟨_, k0, k1, kf⟩ := HZ.out
    refine bodyPost_ret (v := .tuple #[.agg #[.int .i64 lo, .int .i64 (hi - lo)], .bool true]) (by simp [results, Try.results12, go_sem, k0, k1]) rfl ⟨rfl, HB4.out⟩

/-- Is byte k in the stretch? -/
def pB (b l : Int) (k : Nat) : Bool := decide (b ≤ k) && decide ((k : Int) < b + l)
def nN (a b c d : Int) : Nat → Int
  | 0 => 0
  | k + 1 => nN a b c d k + (if (pB a b k && pB c d k) = true then 1 else 0)
def fN (a b c d : Int) : Nat → Int
  | 0 => -1
  | k + 1 => if (pB a b k && pB c d k) = true ∧ fN a b c d k < 0 then (k : Int) else fN a b c d k
def aN (a b c d : Int) : Nat → Bool
  | 0 => true
  | k + 1 => aN a b c d k && (pB a b k || !pB c d k)
theorem n_eq (a b c d : Int) (lo hi : Int) (hlo : (if a < c then c else a) = lo) (hhi : (if c + d < a + b then c + d else a + b) = hi) (h0 : 0 ≤ a ∧ 0 ≤ b ∧ 0 ≤ c ∧ 0 ≤ d) :
    ∀ k : Nat, ((lo < hi ∧ lo < k ∧ k < hi → nN a b c d k = k - lo) ∧ (lo < hi ∧ lo < k ∧ hi ≤ k → nN a b c d k = hi - lo) ∧ (¬ (lo < hi ∧ lo < k) → nN a b c d k = 0)) ∧ (lo < hi ∧ lo < k → fN a b c d k = lo) ∧ (¬ (lo < hi ∧ lo < k) → fN a b c d k = -1) := by
  intro k
  have hl0 : 0 ≤ lo := by split at hlo <;> omega
  induction k with
  | zero =>
    rw [nN, fN]
    omega
  | succ k ih =>
    have hp : (pB a b k && pB c d k) = true ↔ (lo ≤ k ∧ (k : Int) < hi) := by
      simp only [pB, Bool.and_eq_true, decide_eq_true_eq]
      split at hlo <;> split at hhi <;> omega
    clear hlo hhi
    rw [nN, fN]
    generalize nN a b c d k = N at *
    generalize fN a b c d k = F at *
    by_cases h : (pB a b k && pB c d k) = true
    · have h' := hp.1 h
      rw [if_pos h]
      by_cases hf : F < 0
      · rw [if_pos ⟨h, hf⟩]; omega
      · rw [if_neg (fun q => hf q.2)]; omega
    · have h' : ¬ (lo ≤ (k : Int) ∧ (k : Int) < hi) := fun q => h (hp.2 q)
      rw [if_neg h, if_neg (fun q => h q.1)]
      omega
theorem a_iff (a b c d : Int) : ∀ k, aN a b c d k = true ↔ ∀ j, j < k → pB c d j = true → pB a b j = true := by
  intro k
  induction k with
  | zero => simp [aN]
  | succ k ih =>
    rw [aN, Bool.and_eq_true, ih]
    constructor
    · rintro ⟨h1, h2⟩ j hj hq
      rcases Nat.lt_succ_iff_lt_or_eq.1 hj with h | rfl
      · exact h1 j h hq
      · simpa [hq] using h2
    · intro h
      refine ⟨fun j hj => h j (by omega), ?_⟩
      have := h k (by omega)
      cases hq : pB c d k
      · simp
      · simp [this hq]
theorem a_eq (a b c d : Int) (h0 : 0 ≤ a ∧ a ≤ 63 ∧ 0 ≤ b ∧ b ≤ 31 ∧ 0 ≤ c ∧ c ≤ 63 ∧ 0 ≤ d ∧ d ≤ 31) : holdsB a b c d = (aN a b c d 128 && (decide (0 < b) && decide (0 < d))) := by
  rw [Bool.eq_iff_iff]
  simp only [holdsB, Bool.and_eq_true, decide_eq_true_eq, mayB_iff, a_iff]
  constructor
  · rintro ⟨⟨h1, h2⟩, h3⟩
    refine ⟨fun j hj hq => ?_, by omega, by omega⟩
    simp only [pB, Bool.and_eq_true, decide_eq_true_eq] at hq ⊢
    omega
  · rintro ⟨h1, h2, h3⟩
    have k1 := h1 c.toNat (by omega) (by simp only [pB, Bool.and_eq_true, decide_eq_true_eq]; omega)
    have k2 := h1 (c + d - 1).toNat (by omega) (by simp only [pB, Bool.and_eq_true, decide_eq_true_eq]; omega)
    simp only [pB, Bool.and_eq_true, decide_eq_true_eq] at k1 k2
    omega
theorem m_eq (a b c d lo hi : Int) (hlo : (if a < c then c else a) = lo) (hhi : (if c + d < a + b then c + d else a + b) = hi) (h0 : 0 ≤ a ∧ a ≤ 63 ∧ 0 ≤ b ∧ b ≤ 31 ∧ 0 ≤ c ∧ c ≤ 63 ∧ 0 ≤ d ∧ d ≤ 31) :
    (meetsB a b c d = true ∧ 0 < b ∧ 0 < d ∧ lo < hi ∧ nN a b c d 128 = hi - lo ∧ fN a b c d 128 = lo ∧ 0 < hi - lo) ∨ (meetsB a b c d = false ∧ nN a b c d 128 = 0 ∧ fN a b c d 128 = -1 ∧ (aN a b c d 128 = true → 0 < d → ¬ 0 < b)) := by
  obtain ⟨⟨e1, e2, e3⟩, e4, e5⟩ := n_eq a b c d lo hi hlo hhi (by omega) 128
  have hm : meetsB a b c d = true ↔ lo < hi := by
    simp only [meetsB, Bool.and_eq_true, decide_eq_true_eq, mayB_iff]
    split at hlo <;> split at hhi <;> omega
  by_cases h : lo < hi
  · left
    refine ⟨hm.2 h, ?_, ?_, h, ?_, ?_, by omega⟩
    · split at hlo <;> split at hhi <;> omega
    · split at hlo <;> split at hhi <;> omega
    · exact e2 (by split at hlo <;> split at hhi <;> omega)
    · exact e4 (by split at hlo <;> split at hhi <;> omega)
  · right
    refine ⟨by rw [Bool.eq_false_iff]; exact fun q => h (hm.1 q), e3 (fun q => h q.1), e5 (fun q => h q.1), fun ha hd hb => ?_⟩
    have k1 := (a_iff a b c d 128).1 ha c.toNat (by omega) (by simp only [pB, Bool.and_eq_true, decide_eq_true_eq]; omega)
    simp only [pB, Bool.and_eq_true, decide_eq_true_eq] at k1
    split at hlo <;> split at hhi <;> omega
end Go.Proofs.Ytohgdmldleoblaa
