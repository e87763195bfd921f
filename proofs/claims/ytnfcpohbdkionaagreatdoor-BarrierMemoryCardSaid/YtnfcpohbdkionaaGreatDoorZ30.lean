/- BrG. -/
import Derived.Test.YtnfcpohbdkionaaGreatDoorZ29
import Derived.Deep.RegionHeld3
import Derived.Deep.DeepCutAuto
namespace Go.Proofs.YtnfcpohbdkionaaGreatDoor
set_option maxRecDepth 100000
open Go.RowKit Go.ChangeMaps Go.MapKept
set_option linter.unusedVariables false
set_option linter.unusedSimpArgs false
/-- A block that is none of a place's. -/
def Away (B : Nat) (col : Nat → Nat) (R g P z : Nat) : Prop := z < B ∨ (col z = 0 ∧ R < z ∧ g < z ∧ P < z)
section
variable {B lo g : Nat} {col : Nat → Nat} {M R P pg : Nat} {W : World} {σ : MS} {V : Nat → Value} {pc : Int} {ws : List Nat}
theorem BPl.fresh (h : BPl B lo g col M R P pg W σ V pc ws) {z : Nat} (hz : W.heap.size ≤ z) : Away B col R g P z :=
  .inr ⟨h.mem.old hz, Nat.lt_of_lt_of_le h.reg.1 hz, Nat.lt_of_lt_of_le h.reg.2.1 hz, Nat.lt_of_lt_of_le h.pt.2.1.2 hz⟩
theorem BPl.away {w0 w' : World} {z : Nat} (h : BPl B lo g col M R P pg W σ V pc ws) (hz : Away B col R g P z) (t : TzTab w0) (hs0 : w0.heap.size ≤ B) (hb : Below w0.heap.size w0 w') (hs : w'.heap.size = W.heap.size) (hk : ∀ i, i ≠ z → w'.heap[i]? = W.heap[i]?) : BPl B lo g col M R P pg w' σ V pc ws := by
  obtain ⟨Q, sg, u, S, kb, h1, h2, h3, h4, h5, h6⟩ := h.mem.ex
  have hs' : W.heap.size ≤ w'.heap.size := by omega
  have bd := h.br
  have hk2 : ∀ i, col i ≠ 0 → w'.heap[i]? = W.heap[i]? := fun i hi => hk i (by
    intro e
    have := (h.mem.own i hi).1
    rcases hz with hz | ⟨hz, -⟩
    · omega
    · rw [e] at hi; exact hi hz)
  refine ⟨⟨fun i hi => by have := h.mem.own i hi; omega, h.mem.me, ⟨w0, t, hs0, hb⟩, Q, sg, u, S, kb, h1.keep (hk2 M (by rw [h.mem.me]; decide)), ?_, ?_, ?_, ?_, ?_⟩, h.reg.keep hs' (hk R (by rcases hz with hz | hz <;> omega)) (hk g (by rcases hz with hz | hz <;> omega)), h.pt.keep hs' (fun i i1 i2 => hk i (by rcases hz with hz | hz <;> omega)), h.cr, h.cp, h.br, h.df⟩
  · exact h2.move hs' (fun i a e => hk2 i (by rw [e]; decide)) (fun _ _ => rfl)
  · exact h3.move hs' (fun i a e => hk2 i (by rw [e]; decide)) (fun _ _ => rfl)
  · exact h4.move hs' (fun i a e => hk2 i (by rw [e]; decide)) (fun _ _ => rfl)
  · exact h5.move hs' (fun i a e => hk2 i (by rw [e]; decide)) (fun _ _ => rfl)
  · exact h6.move hs' (fun i a e => hk2 i (by rcases e with e | e <;> rw [e] <;> decide)) (fun _ _ => rfl)
theorem BPl.ng (h : BPl B lo g col M R P pg W σ V pc ws) {z : Nat} (hz : Away B col R g P z) : z ≠ g := by
  have := h.br
  rcases hz with hz | hz <;> omega
theorem BPl.ng2 (h : BPl B lo g col M R P pg W σ V pc ws) {z : Nat} (hz : W.heap.size ≤ z) : z ≠ g := h.ng (h.fresh hz)
end
theorem PlAt.far {x y M R P : Nat} {W : World} (h : PlAt x W M R P) (hn : x ≠ y) (k : Nat) (a : Value) : PlAt x (W.setCell ⟨y, k, none⟩ a) M R P :=
  h.keep (by simp [World.setCell]) (Below.heap_setCell _ _ _ _ (by simpa using hn))
set_option maxHeartbeats 3200000 in
theorem w37awake (W : World) (ht : TzTab W) :
    Calls Tryz.prog 4 #[] W fun e w' => e = .returned (.bool true) ∧ Below W.heap.size W w' := by
  have T := Lib.hid ht
  clear ht
  go_enter Tryz.func4, Tryz.ntmps4
  go_wp2_with fail
  refine (w37made 64 16 _ (by decide) (by decide) (by decide) (by decide) T.out).mono ?_
  rintro e v1 ⟨B, lo, g, col, M, R, P, pg, pc, ws, rfl, hp, hpa, hB, hb⟩
  have HP0 := Lib.hid hp
  have HB0 := Lib.hid hb
  have HBB := Lib.hid hB
  have HG0 := Lib.hid ((few_good (b := 32) (l := 16) (c := 32) (p := 31) (t := 1) (pb := 64) (pl := 16) (by decide) hpa (by decide)).1 (by decide))
  have HG1 := Lib.hid ((few_good (b := 64) (l := 16) (c := 64) (p := 31) (t := 1) (pb := 64) (pl := 16) (by decide) hpa (by decide)).2 (by decide))
  clear hp hb hB hpa
  go_upto_region 4 with (fail)
  have hbq := alc (alc (alc0 v1 (.cells #[.pointer (some ⟨M, 0, none⟩), .pointer (some ⟨R, 0, none⟩), .pointer (some ⟨P, 0, none⟩)] 31)) (.cells #[.int .i64 32, .int .i64 16, .int .i64 32, .int .i64 31, .int .i64 1, .bool true] 25)) (.cells #[.int .i64 32, .int .i64 16, .int .i64 32, .int .i64 31, .int .i64 1, .bool true] 25)
  have HX1 := Lib.hid (((PlAt.new v1 M R P 31).below (alc0 _ (.cells #[.int .i64 32, .int .i64 16, .int .i64 32, .int .i64 31, .int .i64 1, .bool true] 25))).below (alc0 _ (.cells #[.int .i64 32, .int .i64 16, .int .i64 32, .int .i64 31, .int .i64 1, .bool true] 25)))
  have HY1 := Lib.hid (CapAt.at1 v1 (.cells #[.pointer (some ⟨M, 0, none⟩), .pointer (some ⟨R, 0, none⟩), .pointer (some ⟨P, 0, none⟩)] 31) 32 16 32 31 1 true 25 (.cells #[.int .i64 32, .int .i64 16, .int .i64 32, .int .i64 31, .int .i64 1, .bool true] 25))
  have HZ1 := Lib.hid (CapAt.at2 v1 (.cells #[.pointer (some ⟨M, 0, none⟩), .pointer (some ⟨R, 0, none⟩), .pointer (some ⟨P, 0, none⟩)] 31) (.cells #[.int .i64 32, .int .i64 16, .int .i64 32, .int .i64 31, .int .i64 1, .bool true] 25) 32 16 32 31 1 true 25)
  have HP1 := Lib.hid (HP0.out.later hbq)
  have HB1 := Lib.hid (thn HB0.out hbq)
  have HN := Lib.hid (And.intro (HP0.out.ng2 (Nat.le_refl _)) (And.intro (HP0.out.ng2 (z := v1.heap.size + 1) (by omega)) (And.intro (HP0.out.ng2 (z := v1.heap.size + 2) (by omega)) (And.intro (HP0.out.fresh (z := v1.heap.size + 2) (by omega)) (show W.heap.size ≤ v1.heap.size + 2 by have := HB0.out.size; omega)))))
  clear HP0 HB0 hbq
  generalize hw1 : ((v1.alloc (.cells #[.pointer (some ⟨M, 0, none⟩), .pointer (some ⟨R, 0, none⟩), .pointer (some ⟨P, 0, none⟩)] 31)).alloc (.cells #[.int .i64 32, .int .i64 16, .int .i64 32, .int .i64 31, .int .i64 1, .bool true] 25)).alloc (.cells #[.int .i64 32, .int .i64 16, .int .i64 32, .int .i64 31, .int .i64 1, .bool true] 25) = w1 at *
  clear hw1
  generalize v1.heap.size = x at *
  obtain ⟨-, z0, z1, z2, z3, z4, z5, -⟩ := HZ1.out
  obtain ⟨g0, g1, g2, g3, g4, g5⟩ := HZ1.out.fzB
  go_upto_region 5 with (fail)
  have hbq : Below W.heap.size W ((w1.setCell ⟨x + 2, 0, none⟩ (.int .i64 64)).setCell ⟨x + 2, 2, none⟩ (.int .i64 64)) := (HB1.out.setCell HN.out.2.2.2.2 _).setCell HN.out.2.2.2.2 _
  have HB2 := Lib.hid hbq
  have HZ2 := Lib.hid ((HZ1.out.s0 64).s2 64)
  have HX2 := Lib.hid ((HX1.out.far (y := x + 2) (by omega) 0 (.int .i64 64)).far (y := x + 2) (by omega) 2 (.int .i64 64))
  have HY2 : Hid (CapAt (x + 1) ((w1.setCell ⟨x + 2, 0, none⟩ (.int .i64 64)).setCell ⟨x + 2, 2, none⟩ (.int .i64 64)) 32 16 32 31 1 true) := Lib.hid ((HY1.out.far (y := x + 2) (by omega)).far (y := x + 2) (by omega))
  have HP2 := Lib.hid (HP1.out.away HN.out.2.2.2.1 T.out HBB.out hbq (by simp only [size_set']) (fun i hi => (Below.heap_setCell _ ⟨x + 2, 2, none⟩ _ i (by simpa using hi)).trans (Below.heap_setCell _ ⟨x + 2, 0, none⟩ _ i (by simpa using hi))))
  clear HP1 HB1 HX1 HY1 HZ1 hbq z0 z1 z2 z3 z4 z5 g0 g1 g2 g3 g4 g5
  generalize hw2 : (w1.setCell ⟨x + 2, 0, none⟩ (.int .i64 64)).setCell ⟨x + 2, 2, none⟩ (.int .i64 64) = w2 at *
  clear hw2
  have HTAKE := Lib.hid (fun (w' : World) (h : PlAt x w' M R P ∧ CapAt (x + 1) w' 32 16 32 31 1 true ∧ CapAt (x + 2) w' 64 16 64 31 1 true) => And.intro h.1.2 (And.intro h.2.1.2 h.2.2.2))
  refine wp_region_held_drew (S := fun w' => PlAt x w' M R P ∧ CapAt (x + 1) w' 32 16 32 31 1 true ∧ CapAt (x + 2) w' 64 16 64 31 1 true) (by kernel_rfl) ?_ (fun hHeld => ?_)
  · exact ⟨HX2.out.below (Below.refl _ _).drew, HY2.out.below (Below.refl _ _).drew, HZ2.out.below (Below.refl _ _).drew⟩
  refine wpAnyH_take (i := 0) (v := ?_) rfl (by kernel_rfl) (by kernel_rfl) (by kernel_rfl) (fun _ _ _ h => h) (Or.inl ⟨by kernel_rfl, ?_⟩) (by assumption) ?_
  rotate_left
  · (intro w hSw; (try dsimp only at hSw); (try have hTk := Hid.out HTAKE _ hSw); go_simp)
    try (with_reducible rfl)
  rotate_left
  try simp (maxSteps := 4000000) only [Act.put, List.setIfInBounds_toArray, List.set_cons_zero, List.set_cons_succ, List.getElem_toArray, List.getElem_cons_zero, List.getElem_cons_succ]
  refine wpAnyH_take (i := 1) (v := ?_) rfl (by kernel_rfl) (by kernel_rfl) (by kernel_rfl) (fun _ _ _ h => h) (Or.inl ⟨by kernel_rfl, ?_⟩) (by assumption) ?_
  rotate_left
  · (intro w hSw; (try dsimp only at hSw); (try have hTk := Hid.out HTAKE _ hSw); go_simp)
    try (with_reducible rfl)
  rotate_left
  try simp (maxSteps := 4000000) only [Act.put, List.setIfInBounds_toArray, List.set_cons_zero, List.set_cons_succ, List.getElem_toArray, List.getElem_cons_zero, List.getElem_cons_succ]
  refine wpAnyH_take (i := 3) (v := ?_) rfl (by kernel_rfl) (by kernel_rfl) (by kernel_rfl) (fun _ _ _ h => h) (Or.inl ⟨by kernel_rfl, ?_⟩) (by assumption) ?_
  rotate_left
  · (intro w hSw; (try dsimp only at hSw); (try have hTk := Hid.out HTAKE _ hSw); go_simp)
    try (with_reducible rfl)
  rotate_left
  try simp (maxSteps := 4000000) only [Act.put, List.setIfInBounds_toArray, List.set_cons_zero, List.set_cons_succ, List.getElem_toArray, List.getElem_cons_zero, List.getElem_cons_succ]
  refine wpAnyH_take (i := 4) (v := ?_) rfl (by kernel_rfl) (by kernel_rfl) (by kernel_rfl) (fun _ _ _ h => h) (Or.inl ⟨by kernel_rfl, ?_⟩) (by assumption) ?_
  rotate_left
  · (intro w hSw; (try dsimp only at hSw); (try have hTk := Hid.out HTAKE _ hSw); go_simp)
    try (with_reducible rfl)
  rotate_left
  try simp (maxSteps := 4000000) only [Act.put, List.setIfInBounds_toArray, List.set_cons_zero, List.set_cons_succ, List.getElem_toArray, List.getElem_cons_zero, List.getElem_cons_succ]
  refine wpAnyH_ready (rs := [2]) (by kernel_rfl) (by simp) ?_
  refine AllReadyH.cons rfl (fun K2 hK2 => ?_) AllReadyH.nil
  go_simp
  with_reducible refine Calls.mono (brput_in 0 32 16 32 31 1 true 32 16 32 31 1 true (HP2.out.later (Below.refl _ _).drew) (by decide) HG0.out) ?_
  rintro e w3 ⟨rfl, hp3, hk3, hs3, hb3⟩
  have HP3 := Lib.hid hp3
  have HB3 := Lib.hid (HB2.out.drew.trans (hb3.mono HBB.out))
  refine hK2.out _ _ (⟨hHeld.1.keep hs3 (hk3 _ hHeld.1.1 HN.out.1), hHeld.2.1.keep hs3 (hk3 _ hHeld.2.1.1 HN.out.2.1), hHeld.2.2.keep hs3 (hk3 _ hHeld.2.2.1 HN.out.2.2.1)⟩) (fun hHeld2 => ?_)
  clear hK2 K2 hHeld
  have hHeld := hHeld2
  clear hHeld2
  try simp (maxSteps := 4000000) only [Act.put, List.setIfInBounds_toArray, List.set_cons_zero, List.set_cons_succ]
  clear hp3 hk3 hs3 hb3
  refine wpAnyH_ready (rs := [5]) (by kernel_rfl) (by simp) ?_
  refine AllReadyH.cons rfl (fun K2 hK2 => ?_) AllReadyH.nil
  go_simp
  with_reducible refine Calls.mono (brput_in 1 64 16 64 31 1 true 0 0 0 0 0 false HP3.out (by decide) HG1.out) ?_
  rintro e w4 ⟨rfl, hp4, hk4, hs4, hb4⟩
  have HP4 := Lib.hid hp4
  have HB4 := Lib.hid (HB3.out.trans (hb4.mono HBB.out))
  refine hK2.out _ _ (⟨hHeld.1.keep hs4 (hk4 _ hHeld.1.1 HN.out.1), hHeld.2.1.keep hs4 (hk4 _ hHeld.2.1.1 HN.out.2.1), hHeld.2.2.keep hs4 (hk4 _ hHeld.2.2.1 HN.out.2.2.1)⟩) (fun hHeld2 => ?_)
  clear hK2 K2 hHeld
  have hHeld := hHeld2
  clear hHeld2
  try simp (maxSteps := 4000000) only [Act.put, List.setIfInBounds_toArray, List.set_cons_zero, List.set_cons_succ]
  clear hp4 hk4 hs4 hb4
  refine wpAnyH_take (i := 6) (v := ?_) rfl (by kernel_rfl) (by kernel_rfl) (by kernel_rfl) (fun _ _ _ h => h) (Or.inl ⟨by kernel_rfl, ?_⟩) (by assumption) ?_
  rotate_left
  · (intro w hSw; (try dsimp only at hSw); (try have hTk := Hid.out HTAKE _ hSw); go_simp)
    try (with_reducible rfl)
  rotate_left
  try simp (maxSteps := 4000000) only [Act.put, List.setIfInBounds_toArray, List.set_cons_zero, List.set_cons_succ, List.getElem_toArray, List.getElem_cons_zero, List.getElem_cons_succ]
  refine wpAnyH_take (i := 7) (v := ?_) rfl (by kernel_rfl) (by kernel_rfl) (by kernel_rfl) (fun _ _ _ h => h) (Or.inl ⟨by kernel_rfl, ?_⟩) (by assumption) ?_
  rotate_left
  · (intro w hSw; (try dsimp only at hSw); (try have hTk := Hid.out HTAKE _ hSw); go_simp)
    try (with_reducible rfl)
  rotate_left
  try simp (maxSteps := 4000000) only [Act.put, List.setIfInBounds_toArray, List.set_cons_zero, List.set_cons_succ, List.getElem_toArray, List.getElem_cons_zero, List.getElem_cons_succ]
  refine wpAnyH_done (by kernel_rfl) ?_ _
  have HX5 := Lib.hid hHeld.1
  have HY5 := Lib.hid hHeld.2.1
  clear hHeld HTAKE HP2 HP3 HB2 HB3 HX2 HY2 HZ2
  obtain ⟨-, k0, k1, k2⟩ := HX5.out
  go_wp2_with fail
  refine (brget_in 0 32 16 32 31 1 true 32 16 32 31 1 true HP4.out (by decide) ⟨rfl, rfl, rfl, rfl, rfl, rfl⟩ HG0.out).mono ?_
  rintro e v5 ⟨rfl, hb⟩
  have HB5 := Lib.hid (thn HB4.out hb)
  have HP5 := Lib.hid (HP4.out.later hb)
  have HX6 := Lib.hid (HX5.out.below hb)
  have HY6 := Lib.hid (HY5.out.below hb)
  clear hb HB4 HP4 HX5 HY5 k0 k1 k2
  obtain ⟨-, k0, k1, k2⟩ := HX6.out
  go_upto_region 7 with (fail)
  have hbq := alc0 v5 (.cells #[.int .i64 32, .int .i64 16, .int .i64 32, .int .i64 31, .int .i64 1, .bool true] 25)
  have HZ7 := Lib.hid (CapAt.new v5 32 16 32 31 1 true 25)
  have HB7 := Lib.hid (thn HB5.out hbq)
  have HP7 := Lib.hid (HP5.out.later hbq)
  have HX7 := Lib.hid (HX6.out.below hbq)
  have HY7 := Lib.hid (HY6.out.below hbq)
  clear hbq HB5 HP5 HX6 HY6 k0 k1 k2
  generalize hw7 : v5.alloc (.cells #[.int .i64 32, .int .i64 16, .int .i64 32, .int .i64 31, .int .i64 1, .bool true] 25) = w7 at *
  clear hw7
  generalize v5.heap.size = x6 at *
  obtain ⟨-, k0, k1, k2⟩ := HX7.out
  go_wp2_with fail
  refine (brget_in 1 0 0 0 0 0 false 0 0 0 0 0 false HP7.out (by decide) ⟨rfl, rfl, rfl, rfl, rfl, rfl⟩ HG1.out.again).mono ?_
  rintro e v8 ⟨rfl, hb⟩
  have HB8 := Lib.hid (thn HB7.out hb)
  have HZ8 := Lib.hid (HZ7.out.below hb)
  have HY8 := Lib.hid (HY7.out.below hb)
  clear hb HB7 HP7 HX7 HY7 HZ7 k0 k1 k2
  obtain ⟨-, y0, y1, y2, y3, y4, y5, -⟩ := HY8.out
  obtain ⟨-, z0, z1, z2, z3, z4, z5, -⟩ := HZ8.out
  have HB9 := Lib.hid (alc HB8.out (.cells #[.int .i64 0, .int .i64 0, .int .i64 0, .int .i64 0, .int .i64 0, .bool false] 25))
  have hy1 : x + 1 < v8.heap.size := HY8.out.1
  have hx6 : x6 < v8.heap.size := HZ8.out.1
  have n1 : x + 1 ≠ v8.heap.size := by omega
  have n2 : x6 ≠ v8.heap.size := by omega
  go_wp2
  go_ret
  exact ⟨rfl, HB9.out⟩
end Go.Proofs.YtnfcpohbdkionaaGreatDoor
