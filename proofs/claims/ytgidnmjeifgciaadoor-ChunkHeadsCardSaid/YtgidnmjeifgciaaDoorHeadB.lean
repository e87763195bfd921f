/- Contracts of package head: Bytes. -/
import Derived.Test.YtgidnmjeifgciaaDoorHeadA
import Derived.Deep.RegionHeld3
import Derived.Deep.RegionWith
namespace Go.Proofs.YtgidnmjeifgciaaDoor
set_option maxRecDepth 100000
open Go.RowKit
set_option linter.unusedVariables false
set_option linter.unusedSimpArgs false

/-- A struct in block x. -/
def HeadAt (x : Nat) (W : World) (s : Int) (c : Int) (t : Int) (n : Int) (e : Int) : Prop :=
  x < W.heap.size ∧ W.cell? ⟨x, 0, none⟩ = some (.int .i64 s) ∧ W.cell? ⟨x, 1, none⟩ = some (.int .i64 c) ∧ W.cell? ⟨x, 2, none⟩ = some (.int .i64 t) ∧ W.cell? ⟨x, 3, none⟩ = some (.int .i64 n) ∧ W.cell? ⟨x, 4, none⟩ = some (.int .i64 e) ∧ ∀ o, o < 5 → W.frozen? ⟨x, o, none⟩ = false
theorem HeadAt.keep {x : Nat} {W W' : World} {s : Int} {c : Int} {t : Int} {n : Int} {e : Int} (h : HeadAt x W s c t n e) (hs : W.heap.size ≤ W'.heap.size) (hk : W'.heap[x]? = W.heap[x]?) : HeadAt x W' s c t n e := by
  obtain ⟨h0, h1, h2, h3, h4, h5, hf⟩ := h
  have e : ∀ o, W'.cell? ⟨x, o, none⟩ = W.cell? ⟨x, o, none⟩ := fun o => World.cell?_of_block hk
  exact ⟨Nat.lt_of_lt_of_le h0 hs, (e 0).trans h1, (e 1).trans h2, (e 2).trans h3, (e 3).trans h4, (e 4).trans h5, fun o ho => (World.frozen?_of_block hk).trans (hf o ho)⟩
theorem HeadAt.below {x : Nat} {W W' : World} {s : Int} {c : Int} {t : Int} {n : Int} {e : Int} (h : HeadAt x W s c t n e) (hb : Below W.heap.size W W') : HeadAt x W' s c t n e := h.keep hb.size (hb.block x h.1)
theorem HeadAt.far {x y o : Nat} {W : World} {s : Int} {c : Int} {t : Int} {n : Int} {e : Int} {z : Value} (h : HeadAt x W s c t n e) (hn : x ≠ y) : HeadAt x (W.setCell ⟨y, o, none⟩ z) s c t n e :=
  h.keep (by simp [World.setCell]) (Below.heap_setCell _ _ _ _ (by simpa using hn))
theorem HeadAt.new (W : World) (s : Int) (c : Int) (t : Int) (n : Int) (e : Int) (T : TypeId) : HeadAt W.heap.size (W.alloc (.cells #[.int .i64 s, .int .i64 c, .int .i64 t, .int .i64 n, .int .i64 e] T)) s c t n e := by
  refine ⟨by simp, by simp, by simp, by simp, by simp, by simp, fun o ho => ?_⟩
  simp
theorem HeadAt.s0 {x : Nat} {W : World} {s : Int} {c : Int} {t : Int} {n : Int} {e : Int} (h : HeadAt x W s c t n e) (s' : Int) : HeadAt x (W.setCell ⟨x, 0, none⟩ (.int .i64 s')) s' c t n e := by
  obtain ⟨h0, h1, h2, h3, h4, h5, hf⟩ := h
  exact ⟨by simp [World.setCell]; exact h0, (World.cell?_setCell_same _ _ _ h1), (World.cell?_setCell_other _ _ _ _ (by simp)).trans h2, (World.cell?_setCell_other _ _ _ _ (by simp)).trans h3, (World.cell?_setCell_other _ _ _ _ (by simp)).trans h4, (World.cell?_setCell_other _ _ _ _ (by simp)).trans h5, fun o ho => by simp [hf o ho]⟩
theorem HeadAt.s1 {x : Nat} {W : World} {s : Int} {c : Int} {t : Int} {n : Int} {e : Int} (h : HeadAt x W s c t n e) (c' : Int) : HeadAt x (W.setCell ⟨x, 1, none⟩ (.int .i64 c')) s c' t n e := by
  obtain ⟨h0, h1, h2, h3, h4, h5, hf⟩ := h
  exact ⟨by simp [World.setCell]; exact h0, (World.cell?_setCell_other _ _ _ _ (by simp)).trans h1, (World.cell?_setCell_same _ _ _ h2), (World.cell?_setCell_other _ _ _ _ (by simp)).trans h3, (World.cell?_setCell_other _ _ _ _ (by simp)).trans h4, (World.cell?_setCell_other _ _ _ _ (by simp)).trans h5, fun o ho => by simp [hf o ho]⟩
theorem HeadAt.s2 {x : Nat} {W : World} {s : Int} {c : Int} {t : Int} {n : Int} {e : Int} (h : HeadAt x W s c t n e) (t' : Int) : HeadAt x (W.setCell ⟨x, 2, none⟩ (.int .i64 t')) s c t' n e := by
  obtain ⟨h0, h1, h2, h3, h4, h5, hf⟩ := h
  exact ⟨by simp [World.setCell]; exact h0, (World.cell?_setCell_other _ _ _ _ (by simp)).trans h1, (World.cell?_setCell_other _ _ _ _ (by simp)).trans h2, (World.cell?_setCell_same _ _ _ h3), (World.cell?_setCell_other _ _ _ _ (by simp)).trans h4, (World.cell?_setCell_other _ _ _ _ (by simp)).trans h5, fun o ho => by simp [hf o ho]⟩
theorem HeadAt.s3 {x : Nat} {W : World} {s : Int} {c : Int} {t : Int} {n : Int} {e : Int} (h : HeadAt x W s c t n e) (n' : Int) : HeadAt x (W.setCell ⟨x, 3, none⟩ (.int .i64 n')) s c t n' e := by
  obtain ⟨h0, h1, h2, h3, h4, h5, hf⟩ := h
  exact ⟨by simp [World.setCell]; exact h0, (World.cell?_setCell_other _ _ _ _ (by simp)).trans h1, (World.cell?_setCell_other _ _ _ _ (by simp)).trans h2, (World.cell?_setCell_other _ _ _ _ (by simp)).trans h3, (World.cell?_setCell_same _ _ _ h4), (World.cell?_setCell_other _ _ _ _ (by simp)).trans h5, fun o ho => by simp [hf o ho]⟩
theorem HeadAt.s4 {x : Nat} {W : World} {s : Int} {c : Int} {t : Int} {n : Int} {e : Int} (h : HeadAt x W s c t n e) (e' : Int) : HeadAt x (W.setCell ⟨x, 4, none⟩ (.int .i64 e')) s c t n e' := by
  obtain ⟨h0, h1, h2, h3, h4, h5, hf⟩ := h
  exact ⟨by simp [World.setCell]; exact h0, (World.cell?_setCell_other _ _ _ _ (by simp)).trans h1, (World.cell?_setCell_other _ _ _ _ (by simp)).trans h2, (World.cell?_setCell_other _ _ _ _ (by simp)).trans h3, (World.cell?_setCell_other _ _ _ _ (by simp)).trans h4, (World.cell?_setCell_same _ _ _ h5), fun o ho => by simp [hf o ho]⟩
theorem HeadAt.heap {x : Nat} {W W' : World} {s c t n e : Int} (h : HeadAt x W s c t n e) (q : W'.heap = W.heap) : HeadAt x W' s c t n e := h.keep (by rw [q]; exact Nat.le_refl _) (by rw [q])
/-- The first k of a header's four bytes. -/
def headS (s c t k : Nat) : Nat → Nat := fun y => if y < k then (if y = 0 then 72 else if y = 1 then s else if y = 2 then c else t) else 0
theorem headS_step (s c t k : Nat) : ∀ y, y ≠ k → headS s c t (k + 1) y = headS s c t k y := by
  intro y hy
  unfold headS
  by_cases h : y < k
  · rw [if_pos h, if_pos (by omega)]
  · rw [if_neg h, if_neg (by omega)]
def headC (s c t n e : Nat) : Nat → Nat := put3 (put3 (headS s c t 4) 4 n 3) 7 e 3
def headD (f : Nat → Nat) (S : Nat) : Nat → Nat := fun y => if y = 14 then S % 256 else f y
def headE (f : Nat → Nat) (S : Nat) : Nat → Nat := fun y => if y = 15 then S / 256 else headD f S y
def headF (key at_ : Int) (s c t n e : Nat) : Nat → Nat := headE (headC s c t n e) (sumR key at_ (headC s c t n e))
theorem headS_lt {s c t : Nat} (hs : s < 256) (hc : c < 256) (ht : t < 256) (k : Nat) : ∀ i, headS s c t k i < 256 := by
  intro i
  unfold headS
  repeat (first | omega | split)
theorem put3_lt {f : Nat → Nat} (hf : ∀ i, f i < 256) (o n j : Nat) : ∀ i, put3 f o n j i < 256 := by
  intro i
  unfold put3
  split
  · exact Nat.mod_lt _ (by omega)
  · exact hf i
theorem headC_lt {s c t : Nat} (n e : Nat) (hs : s < 256) (hc : c < 256) (ht : t < 256) : ∀ i, headC s c t n e i < 256 := put3_lt (put3_lt (headS_lt hs hc ht 4) 4 n 3) 7 e 3
theorem headE_lt {f : Nat → Nat} {S : Nat} (hf : ∀ i, f i < 256) (hS : S < 65536) : ∀ i, headE f S i < 256 := by
  intro i
  unfold headE headD
  split
  · omega
  · split
    · omega
    · exact hf i
theorem headOk_nat {s c t n e : Int} (h : headOkB s c t n e = true) : ∃ S C T N E : Nat, s = S ∧ c = C ∧ t = T ∧ n = N ∧ e = E ∧ S < 256 ∧ C < 256 ∧ T < 256 ∧ N < 16777216 ∧ E < 16777216 := by
  simp only [headOkB, Bool.and_eq_true, decide_eq_true_eq] at h
  refine ⟨s.toNat, c.toNat, t.toNat, n.toNat, e.toNat, ?_⟩
  omega
theorem hbytes_no (key at_ s c t n e : Int) (w : World) (h : headOkB s c t n e = false) :
    Calls Tryd.prog 92 #[.int .u64 key, .int .i64 at_, .agg #[.int .i64 s, .int .i64 c, .int .i64 t, .int .i64 n, .int .i64 e]] w fun e' w' => e' = .returned (.slice none 0 0) ∧ Below w.heap.size w w' := by
  have H := Lib.hid h; clear h
  go_enter Tryd.func92, Tryd.ntmps92
  go_wp2_with fail
  refine (hmay_is _ _ _ _ _ _ _ H.out).mono ?_
  rintro e' w1 ⟨rfl, hb⟩
  go_wp2
  go_ret
  exact ⟨rfl, thn (alc0 _ _) hb⟩
set_option maxRecDepth 4000 in
set_option maxHeartbeats 4000000 in
theorem hbytes_yes (key at_ : Int) (s c t n e : Nat) (w : World) (h : headOkB s c t n e = true) (hs : s < 256) (hc : c < 256) (ht : t < 256) (hn : n < 16777216) (he : e < 16777216) (hk0 : 0 ≤ key) (hk1 : key < 18446744073709551616) :
    Calls Tryd.prog 92 #[.int .u64 key, .int .i64 at_, .agg #[.int .i64 s, .int .i64 c, .int .i64 t, .int .i64 n, .int .i64 e]] w (BytesPost (headF key at_ s c t n e) w) := by
  have hmk := mk16
  have H := Lib.hid h
  have HN := Lib.hid (And.intro hn he)
  have HL := Lib.hid (headC_lt n e hs hc ht)
  have HK := Lib.hid (And.intro hk0 hk1)
  have hw1 : IntKind.u8.wrap (s : Int) = s := by rw [IntKind.wrap_u8]; omega
  have hw2 : IntKind.u8.wrap (c : Int) = c := by rw [IntKind.wrap_u8]; omega
  have hw3 : IntKind.u8.wrap (t : Int) = t := by rw [IntKind.wrap_u8]; omega
  clear h hs hc ht hn he hk0 hk1
  go_enter Tryd.func92, Tryd.ntmps92
  go_wp2_with fail
  refine (hmay_is true _ _ _ _ _ _ H.out).mono ?_
  rintro e' w1 ⟨rfl, hb1⟩
  have HX1 := Lib.hid ((HeadAt.new w s c t n e 83).below hb1)
  have HB1 := Lib.hid (thn (alc0 w (.cells #[.int .i64 s, .int .i64 c, .int .i64 t, .int .i64 n, .int .i64 e] 83)) hb1)
  obtain ⟨x, hx⟩ : ∃ x, w.heap.size = x := ⟨_, rfl⟩
  have hxl := HX1.out.1
  have hr0 := row16 w1
  have HX2 := Lib.hid (HX1.out.below (alc0 w1 (.cells (madeCells #[.int .u8 0] 16) 5)))
  have HB2 := Lib.hid (alc HB1.out (.cells (madeCells #[.int .u8 0] 16) 5))
  clear hb1 HX1 HB1
  go_upto_region 4 with (fail)
  obtain ⟨g, hg⟩ : ∃ g, w1.heap.size = g := ⟨_, rfl⟩
  obtain ⟨wm, hwm⟩ : ∃ wm, w1.alloc (.cells (madeCells #[.int .u8 0] 16) 5) = wm := ⟨_, rfl⟩
  rw [hwm] at hr0 HX2 HB2 ⊢
  rw [hg] at hr0 hxl ⊢
  simp only [hx] at HX2 hxl ⊢
  have hxg : x < g := hxl
  have hxw : w.heap.size ≤ g := by omega
  obtain ⟨w1, rfl⟩ : ∃ w1 : World, w1 = wm := ⟨_, rfl⟩
  have HR1 : Hid (RowU g 16 w1 (headS s c t 0)) := Lib.hid hr0
  have HX1 := HX2
  have HB1 := HB2
  clear hwm hg hr0 hxl HX2 HB2 hmk hx
  go_cut [6] (fun vv wx => vv = .slice none 0 0 ∧ Hid (RowU g 16 wx (headS s c t 4)) ∧ Hid (HeadAt x wx s c t n e) ∧ Hid (Below w.heap.size w wx))
  case first =>
    obtain ⟨hxl, k0, k1, k2, k3, k4, kf⟩ := HX1.out
    obtain ⟨wd, hwd⟩ : ∃ wd, w1.drew = wd := ⟨_, rfl⟩
    refine wp_region_held_drew (S := (fun w' => w'.cell? ⟨x, 0, none⟩ = some (.int .i64 s) ∧ w'.cell? ⟨x, 1, none⟩ = some (.int .i64 c) ∧ w'.cell? ⟨x, 2, none⟩ = some (.int .i64 t) ∧ w'.cell? ⟨x, 3, none⟩ = some (.int .i64 n) ∧ w'.cell? ⟨x, 4, none⟩ = some (.int .i64 e))) (by kernel_rfl) ⟨k0, k1, k2, k3, k4⟩ (fun hHeld => ?_)
    have HR1d := Lib.hid (HR1.out.below (Below.refl _ _).drew)
    have HX1d := Lib.hid (HX1.out.below (Below.refl _ _).drew)
    have HB1d := Lib.hid HB1.out.drew
    rw [hwd] at hHeld HR1d HX1d HB1d ⊢
    clear hwd k0 k1 k2 k3 k4 kf hxl HR1 HX1 HB1
    obtain ⟨j1, j2⟩ := HR1d.out.2 0 (by omega)
    refine wpAnyH_take (i := 0) (v := ?_) rfl (by kernel_rfl) (by kernel_rfl) (by kernel_rfl) (fun _ _ _ h => h) (Or.inl ⟨by kernel_rfl, ?_⟩) (by assumption) ?_
    rotate_left
    · (intro w hSw; (try dsimp only at hSw); go_simp)
      try (with_reducible rfl)
    rotate_left
    try simp (maxSteps := 4000000) only [Act.put, List.setIfInBounds_toArray, List.set_cons_zero, List.set_cons_succ, List.getElem_toArray, List.getElem_cons_zero, List.getElem_cons_succ]
    refine wpAnyH_take (i := 1) (v := ?_) rfl (by kernel_rfl) (by kernel_rfl) (by kernel_rfl) (fun _ _ _ h => h) (Or.inl ⟨by kernel_rfl, ?_⟩) (by assumption) ?_
    rotate_left
    · (intro w hSw; (try dsimp only at hSw); go_simp)
      try (with_reducible rfl)
    rotate_left
    try simp (maxSteps := 4000000) only [Act.put, List.setIfInBounds_toArray, List.set_cons_zero, List.set_cons_succ, List.getElem_toArray, List.getElem_cons_zero, List.getElem_cons_succ]
    refine wpAnyH_take (i := 2) (v := ?_) rfl (by kernel_rfl) (by kernel_rfl) (by kernel_rfl) (fun _ _ _ h => h) (Or.inl ⟨by kernel_rfl, ?_⟩) (by assumption) ?_
    rotate_left
    · (intro w hSw; (try dsimp only at hSw); go_simp)
      try (with_reducible rfl)
    rotate_left
    try simp (maxSteps := 4000000) only [Act.put, List.setIfInBounds_toArray, List.set_cons_zero, List.set_cons_succ, List.getElem_toArray, List.getElem_cons_zero, List.getElem_cons_succ]
    refine wpAnyH_take (i := 3) (v := ?_) rfl (by kernel_rfl) (by kernel_rfl) (by kernel_rfl) (fun _ _ _ h => h) (Or.inl ⟨by kernel_rfl, ?_⟩) (by assumption) ?_
    rotate_left
    · (intro w hSw; (try dsimp only at hSw); go_simp)
      try (with_reducible rfl)
    rotate_left
    try simp (maxSteps := 4000000) only [Act.put, List.setIfInBounds_toArray, List.set_cons_zero, List.set_cons_succ, List.getElem_toArray, List.getElem_cons_zero, List.getElem_cons_succ]
    refine wpAnyH_take (i := 4) (v := ?_) rfl (by kernel_rfl) (by kernel_rfl) (by kernel_rfl) (fun _ _ _ h => h) (Or.inl ⟨by kernel_rfl, ?_⟩) (by assumption) ?_
    rotate_left
    · (intro w hSw; (try dsimp only at hSw); go_simp)
      try (with_reducible rfl)
    rotate_left
    try simp (maxSteps := 4000000) only [Act.put, List.setIfInBounds_toArray, List.set_cons_zero, List.set_cons_succ, List.getElem_toArray, List.getElem_cons_zero, List.getElem_cons_succ]
    refine wpAnyH_take (i := 5) (v := ?_) rfl (by kernel_rfl) (by kernel_rfl) (by kernel_rfl) (fun _ _ _ h => h) (Or.inl ⟨by kernel_rfl, ?_⟩) (by assumption) ?_
    rotate_left
    · (intro w hSw; (try dsimp only at hSw); go_simp)
      try (with_reducible rfl)
    rotate_left
    try simp (maxSteps := 4000000) only [Act.put, List.setIfInBounds_toArray, List.set_cons_zero, List.set_cons_succ, List.getElem_toArray, List.getElem_cons_zero, List.getElem_cons_succ]
    refine wpAnyH_take (i := 6) (v := ?_) rfl (by kernel_rfl) (by kernel_rfl) (by kernel_rfl) (fun _ _ _ h => h) (Or.inl ⟨by kernel_rfl, ?_⟩) (by assumption) ?_
    rotate_left
    · (intro w hSw; (try dsimp only at hSw); go_simp)
      try (with_reducible rfl)
    rotate_left
    try simp (maxSteps := 4000000) only [Act.put, List.setIfInBounds_toArray, List.set_cons_zero, List.set_cons_succ, List.getElem_toArray, List.getElem_cons_zero, List.getElem_cons_succ]
    refine wpAnyH_take (i := 7) (v := ?_) rfl (by kernel_rfl) (by kernel_rfl) (by kernel_rfl) (fun _ _ _ h => h) (Or.inl ⟨by kernel_rfl, ?_⟩) (by assumption) ?_
    rotate_left
    · (intro w hSw; (try dsimp only at hSw); go_simp)
      try (with_reducible rfl)
    rotate_left
    try simp (maxSteps := 4000000) only [Act.put, List.setIfInBounds_toArray, List.set_cons_zero, List.set_cons_succ, List.getElem_toArray, List.getElem_cons_zero, List.getElem_cons_succ]
    refine wpAnyH_take (i := 8) (v := ?_) rfl (by kernel_rfl) (by kernel_rfl) (by kernel_rfl) (fun _ _ _ h => h) (Or.inl ⟨by kernel_rfl, ?_⟩) (by assumption) ?_
    rotate_left
    · (intro w hSw; (try dsimp only at hSw); go_simp)
      try (with_reducible rfl)
    rotate_left
    try simp (maxSteps := 4000000) only [Act.put, List.setIfInBounds_toArray, List.set_cons_zero, List.set_cons_succ, List.getElem_toArray, List.getElem_cons_zero, List.getElem_cons_succ]
    refine wpAnyH_take (i := 9) (v := ?_) rfl (by kernel_rfl) (by kernel_rfl) (by kernel_rfl) (fun _ _ _ h => h) (Or.inl ⟨by kernel_rfl, ?_⟩) (by assumption) ?_
    rotate_left
    · (intro w hSw; (try dsimp only at hSw); go_simp)
      try (with_reducible rfl)
    rotate_left
    try simp (maxSteps := 4000000) only [Act.put, List.setIfInBounds_toArray, List.set_cons_zero, List.set_cons_succ, List.getElem_toArray, List.getElem_cons_zero, List.getElem_cons_succ]
    refine wpAnyH_take (i := 10) (v := ?_) rfl (by kernel_rfl) (by kernel_rfl) (by kernel_rfl) (fun _ _ _ h => h) (Or.inl ⟨by kernel_rfl, ?_⟩) (by assumption) ?_
    rotate_left
    · (intro w hSw; (try dsimp only at hSw); go_simp)
      try (with_reducible rfl)
    rotate_left
    try simp (maxSteps := 4000000) only [Act.put, List.setIfInBounds_toArray, List.set_cons_zero, List.set_cons_succ, List.getElem_toArray, List.getElem_cons_zero, List.getElem_cons_succ]
    refine wpAnyH_take (i := 11) (v := ?_) rfl (by kernel_rfl) (by kernel_rfl) (by kernel_rfl) (fun _ _ _ h => h) (Or.inl ⟨by kernel_rfl, ?_⟩) (by assumption) ?_
    rotate_left
    · (intro w hSw; (try dsimp only at hSw); go_simp)
      try (with_reducible rfl)
    rotate_left
    try simp (maxSteps := 4000000) only [Act.put, List.setIfInBounds_toArray, List.set_cons_zero, List.set_cons_succ, List.getElem_toArray, List.getElem_cons_zero, List.getElem_cons_succ]
    refine wpAnyH_take (i := 12) (v := ?_) rfl (by kernel_rfl) (by kernel_rfl) (by kernel_rfl) (fun _ _ _ h => h) (Or.inl ⟨by kernel_rfl, ?_⟩) (by assumption) ?_
    rotate_left
    · (intro w hSw; (try dsimp only at hSw); go_simp)
      try (with_reducible rfl)
    rotate_left
    try simp (maxSteps := 4000000) only [Act.put, List.setIfInBounds_toArray, List.set_cons_zero, List.set_cons_succ, List.getElem_toArray, List.getElem_cons_zero, List.getElem_cons_succ]
    refine wpAnyH_take (i := 13) (v := ?_) rfl (by kernel_rfl) (by kernel_rfl) (by kernel_rfl) (fun _ _ _ h => h) (Or.inl ⟨by kernel_rfl, ?_⟩) (by assumption) ?_
    rotate_left
    · (intro w hSw; (try dsimp only at hSw); go_simp)
      try (with_reducible rfl)
    rotate_left
    try simp (maxSteps := 4000000) only [Act.put, List.setIfInBounds_toArray, List.set_cons_zero, List.set_cons_succ, List.getElem_toArray, List.getElem_cons_zero, List.getElem_cons_succ]
    refine wpAnyH_ready (rs := [14]) (by kernel_rfl) (by simp) ?_
    refine AllReadyH.cons rfl (fun K2 hK2 => ?_) AllReadyH.nil
    go_simp
    obtain ⟨ws0, hws⟩ : ∃ ws0, wd.setCell ⟨g, 0, none⟩ (.int .u8 72) = ws0 := ⟨_, rfl⟩
    have HRn : Hid (RowU g 16 ws0 (headS s c t 1)) := Lib.hid (by rw [← hws]; exact HR1d.out.up (c' := headS s c t 1) (by omega) rfl (headS_step s c t 0))
    have HXn : Hid (HeadAt x ws0 s c t n e) := Lib.hid (by rw [← hws]; exact HX1d.out.far (Nat.ne_of_lt hxg))
    have HBn : Hid (Below w.heap.size w ws0) := Lib.hid (by rw [← hws]; exact HB1d.out.setCell hxw _)
    rw [hws]
    clear hws j1 j2
    refine hK2.out _ _ ⟨HXn.out.2.1, HXn.out.2.2.1, HXn.out.2.2.2.1, HXn.out.2.2.2.2.1, HXn.out.2.2.2.2.2.1⟩ (fun hHeld2 => ?_)
    clear hK2 K2 hHeld
    have hHeld := hHeld2
    clear hHeld2
    try simp (maxSteps := 4000000) only [Act.put, List.setIfInBounds_toArray, List.set_cons_zero, List.set_cons_succ]
    obtain ⟨j1, j2⟩ := HRn.out.2 1 (by omega)
    refine wpAnyH_take (i := 15) (v := ?_) rfl (by kernel_rfl) (by kernel_rfl) (by kernel_rfl) (fun _ _ _ h => h) (Or.inl ⟨by kernel_rfl, ?_⟩) (by assumption) ?_
    rotate_left
    · (intro w hSw; (try dsimp only at hSw); go_simp)
      try (with_reducible rfl)
    rotate_left
    try simp (maxSteps := 4000000) only [Act.put, List.setIfInBounds_toArray, List.set_cons_zero, List.set_cons_succ, List.getElem_toArray, List.getElem_cons_zero, List.getElem_cons_succ]
    refine wpAnyH_ready (rs := [16]) (by kernel_rfl) (by simp) ?_
    refine AllReadyH.cons rfl (fun K2 hK2 => ?_) AllReadyH.nil
    go_simp
    obtain ⟨ws1, hws⟩ : ∃ ws1, ws0.setCell ⟨g, 1, none⟩ (.int .u8 s) = ws1 := ⟨_, rfl⟩
    have HRn : Hid (RowU g 16 ws1 (headS s c t 2)) := Lib.hid (by rw [← hws]; exact HRn.out.up (c' := headS s c t 2) (by omega) rfl (headS_step s c t 1))
    have HXn : Hid (HeadAt x ws1 s c t n e) := Lib.hid (by rw [← hws]; exact HXn.out.far (Nat.ne_of_lt hxg))
    have HBn : Hid (Below w.heap.size w ws1) := Lib.hid (by rw [← hws]; exact HBn.out.setCell hxw _)
    rw [hws]
    clear hws j1 j2
    refine hK2.out _ _ ⟨HXn.out.2.1, HXn.out.2.2.1, HXn.out.2.2.2.1, HXn.out.2.2.2.2.1, HXn.out.2.2.2.2.2.1⟩ (fun hHeld2 => ?_)
    clear hK2 K2 hHeld
    have hHeld := hHeld2
    clear hHeld2
    try simp (maxSteps := 4000000) only [Act.put, List.setIfInBounds_toArray, List.set_cons_zero, List.set_cons_succ]
    obtain ⟨j1, j2⟩ := HRn.out.2 2 (by omega)
    refine wpAnyH_take (i := 17) (v := ?_) rfl (by kernel_rfl) (by kernel_rfl) (by kernel_rfl) (fun _ _ _ h => h) (Or.inl ⟨by kernel_rfl, ?_⟩) (by assumption) ?_
    rotate_left
    · (intro w hSw; (try dsimp only at hSw); go_simp)
      try (with_reducible rfl)
    rotate_left
    try simp (maxSteps := 4000000) only [Act.put, List.setIfInBounds_toArray, List.set_cons_zero, List.set_cons_succ, List.getElem_toArray, List.getElem_cons_zero, List.getElem_cons_succ]
    refine wpAnyH_ready (rs := [18]) (by kernel_rfl) (by simp) ?_
    refine AllReadyH.cons rfl (fun K2 hK2 => ?_) AllReadyH.nil
    go_simp
    obtain ⟨ws2, hws⟩ : ∃ ws2, ws1.setCell ⟨g, 2, none⟩ (.int .u8 c) = ws2 := ⟨_, rfl⟩
    have HRn : Hid (RowU g 16 ws2 (headS s c t 3)) := Lib.hid (by rw [← hws]; exact HRn.out.up (c' := headS s c t 3) (by omega) rfl (headS_step s c t 2))
    have HXn : Hid (HeadAt x ws2 s c t n e) := Lib.hid (by rw [← hws]; exact HXn.out.far (Nat.ne_of_lt hxg))
    have HBn : Hid (Below w.heap.size w ws2) := Lib.hid (by rw [← hws]; exact HBn.out.setCell hxw _)
    rw [hws]
    clear hws j1 j2
    refine hK2.out _ _ ⟨HXn.out.2.1, HXn.out.2.2.1, HXn.out.2.2.2.1, HXn.out.2.2.2.2.1, HXn.out.2.2.2.2.2.1⟩ (fun hHeld2 => ?_)
    clear hK2 K2 hHeld
    have hHeld := hHeld2
    clear hHeld2
    try simp (maxSteps := 4000000) only [Act.put, List.setIfInBounds_toArray, List.set_cons_zero, List.set_cons_succ]
    obtain ⟨j1, j2⟩ := HRn.out.2 3 (by omega)
    refine wpAnyH_take (i := 19) (v := ?_) rfl (by kernel_rfl) (by kernel_rfl) (by kernel_rfl) (fun _ _ _ h => h) (Or.inl ⟨by kernel_rfl, ?_⟩) (by assumption) ?_
    rotate_left
    · (intro w hSw; (try dsimp only at hSw); go_simp)
      try (with_reducible rfl)
    rotate_left
    try simp (maxSteps := 4000000) only [Act.put, List.setIfInBounds_toArray, List.set_cons_zero, List.set_cons_succ, List.getElem_toArray, List.getElem_cons_zero, List.getElem_cons_succ]
    refine wpAnyH_ready (rs := [20]) (by kernel_rfl) (by simp) ?_
    refine AllReadyH.cons rfl (fun K2 hK2 => ?_) AllReadyH.nil
    go_simp
    obtain ⟨ws3, hws⟩ : ∃ ws3, ws2.setCell ⟨g, 3, none⟩ (.int .u8 t) = ws3 := ⟨_, rfl⟩
    have HRn : Hid (RowU g 16 ws3 (headS s c t 4)) := Lib.hid (by rw [← hws]; exact HRn.out.up (c' := headS s c t 4) (by omega) rfl (headS_step s c t 3))
    have HXn : Hid (HeadAt x ws3 s c t n e) := Lib.hid (by rw [← hws]; exact HXn.out.far (Nat.ne_of_lt hxg))
    have HBn : Hid (Below w.heap.size w ws3) := Lib.hid (by rw [← hws]; exact HBn.out.setCell hxw _)
    rw [hws]
    clear hws j1 j2
    refine hK2.out _ _ ⟨HXn.out.2.1, HXn.out.2.2.1, HXn.out.2.2.2.1, HXn.out.2.2.2.2.1, HXn.out.2.2.2.2.2.1⟩ (fun hHeld2 => ?_)
    clear hK2 K2 hHeld
    have hHeld := hHeld2
    clear hHeld2
    try simp (maxSteps := 4000000) only [Act.put, List.setIfInBounds_toArray, List.set_cons_zero, List.set_cons_succ]
    refine wpAnyH_done (by kernel_rfl) ?_ _
    go_wp2
    go_meet
    exact ⟨rfl, HRn, HXn, HBn⟩
  case rest =>
  obtain ⟨rfl, HR2, HX2, HB2⟩ := hcut
  obtain ⟨w2, rfl⟩ : ∃ w2 : World, w2 = wc := ⟨_, rfl⟩
  clear HR1 HX1 HB1 hw1 hw2 hw3
  obtain ⟨_, k0, k1, k2, k3, k4, kf⟩ := HX2.out
  go_upto_region 5 with (fail)
  go_cut [34] (fun vv wx => vv = .bool true ∧ Hid (RowU g 16 wx (put3 (headS s c t 4) 4 n 3)) ∧ Hid (HeadAt x wx s c t n e) ∧ Hid (Below w.heap.size w wx))
  case first =>
    have HP := Lib.hid (fun (W' : World) (q : W'.heap = w2.heap) => tput g 4 16 12 12 n (headS s c t 4) W' (HR2.out.heap q) (by omega) (by omega) (by omega) (by have := HN.out; omega))
    go_region_with (go_at_call 126; refine (HP.out _ (by rfl)).mono ?_; rintro e w9 ⟨rfl, hr, ho⟩)
    all_goals go_wp2
    all_goals go_meet
    all_goals exact ⟨rfl, Lib.hid hr, Lib.hid ((HX2.out.heap (by rfl)).keep (Nat.le_of_eq ho.2.1.symm) (ho.2.2 x (Nat.ne_of_lt hxg))), Lib.hid (by first | exact HB2.out.trans (ho.1.mono hxw) | exact HB2.out.drew.trans (ho.1.mono hxw))⟩
  case rest =>
  obtain ⟨rfl, HR3, HX3, HB3⟩ := hcut
  obtain ⟨w3, rfl⟩ : ∃ w3 : World, w3 = wc := ⟨_, rfl⟩
  clear k0 k1 k2 k3 k4 kf HR2 HX2 HB2
  obtain ⟨_, k0, k1, k2, k3, k4, kf⟩ := HX3.out
  go_upto_region 6 with (fail)
  go_cut [39] (fun vv wx => vv = .bool true ∧ Hid (RowU g 16 wx (headC s c t n e)) ∧ Hid (HeadAt x wx s c t n e) ∧ Hid (Below w.heap.size w wx))
  case first =>
    have HP := Lib.hid (fun (W' : World) (q : W'.heap = w3.heap) => tput g 7 16 9 9 e (put3 (headS s c t 4) 4 n 3) W' (HR3.out.heap q) (by omega) (by omega) (by omega) (by have := HN.out; omega))
    go_region_with (go_at_call 126; refine (HP.out _ (by rfl)).mono ?_; rintro e w9 ⟨rfl, hr, ho⟩)
    all_goals go_wp2
    all_goals go_meet
    all_goals exact ⟨rfl, Lib.hid hr, Lib.hid ((HX3.out.heap (by rfl)).keep (Nat.le_of_eq ho.2.1.symm) (ho.2.2 x (Nat.ne_of_lt hxg))), Lib.hid (by first | exact HB3.out.trans (ho.1.mono hxw) | exact HB3.out.drew.trans (ho.1.mono hxw))⟩
  case rest =>
  obtain ⟨rfl, HR4, HX4, HB4⟩ := hcut
  obtain ⟨w4, rfl⟩ : ∃ w4 : World, w4 = wc := ⟨_, rfl⟩
  clear k0 k1 k2 k3 k4 kf HR3 HX3 HB3
  go_wp2_with fail
  refine (msum key at_ g 16 16 _ _ HR4.out (by omega) HL.out HK.out.1 HK.out.2).mono ?_
  rintro e' w5 ⟨rfl, rfl⟩
  have hSl := sumR_lt key at_ (headC s c t n e)
  obtain ⟨S, hS⟩ : ∃ S, sumR key at_ (headC s c t n e) = S := ⟨_, rfl⟩
  have HS := Lib.hid hS
  rw [hS] at hSl ⊢
  clear hS
  have v1 : IntKind.u8.wrap (S : Int) = ((S % 256 : Nat) : Int) := by rw [IntKind.wrap_u8]; omega
  have v2 : (S : Int) / 256 = ((S / 256 : Nat) : Int) := by omega
  have v3 : IntKind.u8.wrap ((S / 256 : Nat) : Int) = ((S / 256 : Nat) : Int) := by rw [IntKind.wrap_u8]; omega
  obtain ⟨S0, hS0⟩ : ∃ S0, S % 256 = S0 := ⟨_, rfl⟩
  obtain ⟨S1, hS1⟩ : ∃ S1, S / 256 = S1 := ⟨_, rfl⟩
  rw [hS0] at v1; rw [hS1] at v2 v3
  have HSS := Lib.hid (And.intro hS0 hS1)
  clear hS0 hS1
  obtain ⟨a1, a2⟩ := HR4.out.2 14 (by omega)
  obtain ⟨b1, b2⟩ := HR4.out.2 15 (by omega)
  have HR5 := Lib.hid (HR4.out.up (x := 14) (v := (S0 : Int)) (c' := headD (headC s c t n e) S) (by omega) (by show (S0 : Int) = ((S % 256 : Nat) : Int); rw [HSS.out.1]) (fun k hk => if_neg hk))
  have HR6 := Lib.hid (HR5.out.up (x := 15) (v := (S1 : Int)) (c' := headE (headC s c t n e) S) (by omega) (by show (S1 : Int) = ((S / 256 : Nat) : Int); rw [HSS.out.2]) (fun k hk => if_neg hk))
  have HB6 := Lib.hid ((HB4.out.setCell (p := ⟨g, 14, none⟩) hxw (.int .u8 S0)).setCell (p := ⟨g, 15, none⟩) hxw (.int .u8 S1))
  go_wp2
  go_ret
  exact ⟨g, rfl, hxw, by unfold headF; rw [HS.out]; exact HR6.out, HB6.out⟩
end Go.Proofs.YtgidnmjeifgciaaDoor
