/- BrA. -/
import Derived.Test.YtnfcpohbdkionaaGreatDoorZ20
import Derived.Test.YtnfcpohbdkionaaGreatDoorZ21
import Derived.Test.YtnfcpohbdkionaaGreatDoorZ22
import Derived.Deep.RegionHeld3
namespace Go.Proofs.YtnfcpohbdkionaaGreatDoor
set_option maxRecDepth 100000
open Go.RowKit Go.ChangeMaps Go.MapKept
set_option linter.unusedVariables false
set_option linter.unusedSimpArgs false
def PlAt (x : Nat) (W : World) (M R P : Nat) : Prop := x < W.heap.size ∧ W.cell? ⟨x, 0, none⟩ = some (.pointer (some ⟨M, 0, none⟩)) ∧ W.cell? ⟨x, 1, none⟩ = some (.pointer (some ⟨R, 0, none⟩)) ∧ W.cell? ⟨x, 2, none⟩ = some (.pointer (some ⟨P, 0, none⟩))
theorem PlAt.keep {x M R P : Nat} {W W' : World} (h : PlAt x W M R P) (hs : W.heap.size ≤ W'.heap.size) (hk : W'.heap[x]? = W.heap[x]?) : PlAt x W' M R P :=
  ⟨Nat.lt_of_lt_of_le h.1 hs, (World.cell?_of_block hk).trans h.2.1, (World.cell?_of_block hk).trans h.2.2.1, (World.cell?_of_block hk).trans h.2.2.2⟩
theorem PlAt.below {x M R P : Nat} {W W' : World} (h : PlAt x W M R P) (hb : Below W.heap.size W W') : PlAt x W' M R P := h.keep hb.size (hb.block x h.1)
theorem PlAt.new (W : World) (M R P : Nat) (T : TypeId) : PlAt W.heap.size (W.alloc (.cells #[.pointer (some ⟨M, 0, none⟩), .pointer (some ⟨R, 0, none⟩), .pointer (some ⟨P, 0, none⟩)] T)) M R P := ⟨by simp, by simp, by simp, by simp⟩
theorem CapAt.at1 (W : World) (o1 : Obj) (b l c p t : Int) (v : Bool) (T : TypeId) (o2 : Obj) : CapAt (W.heap.size + 1) (((W.alloc o1).alloc (.cells #[.int .i64 b, .int .i64 l, .int .i64 c, .int .i64 p, .int .i64 t, .bool v] T)).alloc o2) b l c p t v := by
  have := (CapAt.new (W.alloc o1) b l c p t v T).below (alc0 _ o2)
  rwa [show (W.alloc o1).heap.size = W.heap.size + 1 by simp] at this
theorem CapAt.at2 (W : World) (o1 o2 : Obj) (b l c p t : Int) (v : Bool) (T : TypeId) : CapAt (W.heap.size + 2) (((W.alloc o1).alloc o2).alloc (.cells #[.int .i64 b, .int .i64 l, .int .i64 c, .int .i64 p, .int .i64 t, .bool v] T)) b l c p t v := by
  have := CapAt.new ((W.alloc o1).alloc o2) b l c p t v T
  rwa [show ((W.alloc o1).alloc o2).heap.size = W.heap.size + 2 by simp] at this
theorem CapAt.fzB {x : Nat} {W : World} {b l c p t : Int} {v : Bool} (h : CapAt x W b l c p t v) : W.frozen? ⟨x, 0, none⟩ = false ∧ W.frozen? ⟨x, 1, none⟩ = false ∧ W.frozen? ⟨x, 2, none⟩ = false ∧ W.frozen? ⟨x, 3, none⟩ = false ∧ W.frozen? ⟨x, 4, none⟩ = false ∧ W.frozen? ⟨x, 5, none⟩ = false :=
  ⟨h.2.2.2.2.2.2.2 0 (by decide), h.2.2.2.2.2.2.2 1 (by decide), h.2.2.2.2.2.2.2 2 (by decide), h.2.2.2.2.2.2.2 3 (by decide), h.2.2.2.2.2.2.2 4 (by decide), h.2.2.2.2.2.2.2 5 (by decide)⟩
section
variable {B : Nat} {col : Nat → Nat} {M R P : Nat} {W : World} {σ : MS} {lo g : Nat} {pc : Int} {ws : List Nat}
set_option maxHeartbeats 1600000 in
/-- What is not alive is none. -/
theorem brgood_dead (b l c p t : Int) (v : Bool) (h : MEM B col M W σ) (ha : aliveB σ b l c p t v = false) :
    Calls Tryz.prog 26 #[.agg #[.pointer (some ⟨M, 0, none⟩), .pointer (some ⟨R, 0, none⟩), .pointer (some ⟨P, 0, none⟩)], .agg #[.int .i64 b, .int .i64 l, .int .i64 c, .int .i64 p, .int .i64 t, .bool v]] W fun e w' => e = .returned (.agg #[.int .i64 0, .int .i64 0, .int .i64 0, .int .i64 0, .int .i64 0, .bool false]) ∧ Below W.heap.size W w' := by
  have H := Lib.hid h
  have HA := Lib.hid ha
  have HX := Lib.hid (((PlAt.new W M R P 31).below (alc0 _ (.cells #[.int .i64 b, .int .i64 l, .int .i64 c, .int .i64 p, .int .i64 t, .bool v] 25))).below (alc0 _ (.cells #[.int .i64 0, .int .i64 0, .int .i64 0, .int .i64 0, .int .i64 0, .bool false] 25)))
  have HY := Lib.hid (CapAt.at1 W (.cells #[.pointer (some ⟨M, 0, none⟩), .pointer (some ⟨R, 0, none⟩), .pointer (some ⟨P, 0, none⟩)] 31) b l c p t v 25 (.cells #[.int .i64 0, .int .i64 0, .int .i64 0, .int .i64 0, .int .i64 0, .bool false] 25))
  have HZ := Lib.hid (CapAt.at2 W (.cells #[.pointer (some ⟨M, 0, none⟩), .pointer (some ⟨R, 0, none⟩), .pointer (some ⟨P, 0, none⟩)] 31) (.cells #[.int .i64 b, .int .i64 l, .int .i64 c, .int .i64 p, .int .i64 t, .bool v] 25) 0 0 0 0 0 false 25)
  have HB := Lib.hid (alc (alc (alc0 W (.cells #[.pointer (some ⟨M, 0, none⟩), .pointer (some ⟨R, 0, none⟩), .pointer (some ⟨P, 0, none⟩)] 31)) (.cells #[.int .i64 b, .int .i64 l, .int .i64 c, .int .i64 p, .int .i64 t, .bool v] 25)) (.cells #[.int .i64 0, .int .i64 0, .int .i64 0, .int .i64 0, .int .i64 0, .bool false] 25))
  clear h ha
  go_enter Tryz.func26, Tryz.ntmps26
  go_upto_region 1 with (fail)
  generalize hw1 : ((W.alloc (.cells #[.pointer (some ⟨M, 0, none⟩), .pointer (some ⟨R, 0, none⟩), .pointer (some ⟨P, 0, none⟩)] 31)).alloc (.cells #[.int .i64 b, .int .i64 l, .int .i64 c, .int .i64 p, .int .i64 t, .bool v] 25)).alloc (.cells #[.int .i64 0, .int .i64 0, .int .i64 0, .int .i64 0, .int .i64 0, .bool false] 25) = w1 at *
  clear hw1
  have HTAKE := Lib.hid (fun (w' : World) (h : PlAt W.heap.size w' M R P ∧ CapAt (W.heap.size + 1) w' b l c p t v) => And.intro h.1.2 h.2.2)
  refine wp_region_held_drew (S := fun w' => PlAt W.heap.size w' M R P ∧ CapAt (W.heap.size + 1) w' b l c p t v) (by kernel_rfl) ?_ (fun hHeld => ?_)
  · exact ⟨HX.out.below (Below.refl _ _).drew, HY.out.below (Below.refl _ _).drew⟩
  refine wpAnyH_take (i := 0) (v := ?_) rfl (by kernel_rfl) (by kernel_rfl) (by kernel_rfl) (fun _ _ _ h => h) (Or.inl ⟨by kernel_rfl, ?_⟩) (by assumption) ?_
  rotate_left
  · (intro w hSw; (try dsimp only at hSw); (try have hTk := Hid.out HTAKE _ hSw); go_simp)
    try (with_reducible rfl)
  rotate_left
  try simp (maxSteps := 4000000) only [Act.put, List.setIfInBounds_toArray, List.set_cons_zero, List.set_cons_succ, List.getElem_toArray, List.getElem_cons_zero, List.getElem_cons_succ]
  refine wpAnyH_take (i := 1) (v := ?_) rfl (by kernel_rfl) (by kernel_rfl) (by kernel_rfl) (fun _ _ _ h => h) (Or.inl ⟨by kernel_rfl, ?_⟩) (by assumption) ?_
  rotate_left
  · (intro w hSw; (try dsimp only at hSw); (try have hTk := Hid.out HTAKE _ hSw); go_simp)
    try (with_reducible rfl)
  rotate_left
  try simp (maxSteps := 4000000) only [Act.put, List.setIfInBounds_toArray, List.set_cons_zero, List.set_cons_succ, List.getElem_toArray, List.getElem_cons_zero, List.getElem_cons_succ]
  refine wpAnyH_take (i := 2) (v := ?_) rfl (by kernel_rfl) (by kernel_rfl) (by kernel_rfl) (fun _ _ _ h => h) (Or.inl ⟨by kernel_rfl, ?_⟩) (by assumption) ?_
  rotate_left
  · (intro w hSw; (try dsimp only at hSw); (try have hTk := Hid.out HTAKE _ hSw); go_simp)
    try (with_reducible rfl)
  rotate_left
  try simp (maxSteps := 4000000) only [Act.put, List.setIfInBounds_toArray, List.set_cons_zero, List.set_cons_succ, List.getElem_toArray, List.getElem_cons_zero, List.getElem_cons_succ]
  refine wpAnyH_ready (rs := [3]) (by kernel_rfl) (by simp) ?_
  refine AllReadyH.cons rfl (fun K2 hK2 => ?_) AllReadyH.nil
  go_simp
  with_reducible refine Calls.mono (ckalive false b l c p t v (H.out.later HB.out.drew) HA.out) ?_
  rintro e w2 ⟨rfl, hb⟩
  have hb' : Below w1.heap.size w1 w2 := thn (Below.refl _ _).drew hb
  have HZ2 := Lib.hid (HZ.out.below hb')
  have HB2 := Lib.hid (thn HB.out hb')
  refine hK2.out _ _ (⟨hHeld.1.below hb, hHeld.2.below hb⟩) (fun hHeld2 => ?_)
  clear hK2 K2 hHeld
  have hHeld := hHeld2
  clear hHeld2
  try simp (maxSteps := 4000000) only [Act.put, List.setIfInBounds_toArray, List.set_cons_zero, List.set_cons_succ]
  clear hb hb'
  refine wpAnyH_take (i := 4) (v := ?_) rfl (by kernel_rfl) (by kernel_rfl) (by kernel_rfl) (fun _ _ _ h => h) (Or.inl ⟨by kernel_rfl, ?_⟩) (by assumption) ?_
  rotate_left
  · (intro w hSw; (try dsimp only at hSw); (try have hTk := Hid.out HTAKE _ hSw); go_simp)
    try (with_reducible rfl)
  rotate_left
  try simp (maxSteps := 4000000) only [Act.put, List.setIfInBounds_toArray, List.set_cons_zero, List.set_cons_succ, List.getElem_toArray, List.getElem_cons_zero, List.getElem_cons_succ]
  refine wpAnyH_take (i := 5) (v := ?_) rfl (by kernel_rfl) (by kernel_rfl) (by kernel_rfl) (fun _ _ _ h => h) (Or.inl ⟨by kernel_rfl, ?_⟩) (by assumption) ?_
  rotate_left
  · (intro w hSw; (try dsimp only at hSw); (try have hTk := Hid.out HTAKE _ hSw); go_simp)
    try (with_reducible rfl)
  rotate_left
  try simp (maxSteps := 4000000) only [Act.put, List.setIfInBounds_toArray, List.set_cons_zero, List.set_cons_succ, List.getElem_toArray, List.getElem_cons_zero, List.getElem_cons_succ]
  refine wpAnyH_take (i := 6) (v := undef) rfl (by kernel_rfl) (by kernel_rfl) (by kernel_rfl) (fun _ _ _ h => h) (Or.inr ⟨by kernel_rfl, rfl⟩) (by assumption) ?_
  try simp (maxSteps := 4000000) only [Act.put, List.setIfInBounds_toArray, List.set_cons_zero, List.set_cons_succ, List.getElem_toArray, List.getElem_cons_zero, List.getElem_cons_succ]
  refine wpAnyH_take (i := 7) (v := undef) rfl (by kernel_rfl) (by kernel_rfl) (by kernel_rfl) (fun _ _ _ h => h) (Or.inr ⟨by kernel_rfl, rfl⟩) (by assumption) ?_
  try simp (maxSteps := 4000000) only [Act.put, List.setIfInBounds_toArray, List.set_cons_zero, List.set_cons_succ, List.getElem_toArray, List.getElem_cons_zero, List.getElem_cons_succ]
  refine wpAnyH_take (i := 8) (v := undef) rfl (by kernel_rfl) (by kernel_rfl) (by kernel_rfl) (fun _ _ _ h => h) (Or.inr ⟨by kernel_rfl, rfl⟩) (by assumption) ?_
  try simp (maxSteps := 4000000) only [Act.put, List.setIfInBounds_toArray, List.set_cons_zero, List.set_cons_succ, List.getElem_toArray, List.getElem_cons_zero, List.getElem_cons_succ]
  refine wpAnyH_take (i := 9) (v := undef) rfl (by kernel_rfl) (by kernel_rfl) (by kernel_rfl) (fun _ _ _ h => h) (Or.inr ⟨by kernel_rfl, rfl⟩) (by assumption) ?_
  try simp (maxSteps := 4000000) only [Act.put, List.setIfInBounds_toArray, List.set_cons_zero, List.set_cons_succ, List.getElem_toArray, List.getElem_cons_zero, List.getElem_cons_succ]
  refine wpAnyH_take (i := 10) (v := undef) rfl (by kernel_rfl) (by kernel_rfl) (by kernel_rfl) (fun _ _ _ h => h) (Or.inr ⟨by kernel_rfl, rfl⟩) (by assumption) ?_
  try simp (maxSteps := 4000000) only [Act.put, List.setIfInBounds_toArray, List.set_cons_zero, List.set_cons_succ, List.getElem_toArray, List.getElem_cons_zero, List.getElem_cons_succ]
  refine wpAnyH_take (i := 11) (v := ?_) rfl (by kernel_rfl) (by kernel_rfl) (by kernel_rfl) (fun _ _ _ h => h) (Or.inl ⟨by kernel_rfl, ?_⟩) (by assumption) ?_
  rotate_left
  · (intro w hSw; (try dsimp only at hSw); (try have hTk := Hid.out HTAKE _ hSw); go_simp)
    try (with_reducible rfl)
  rotate_left
  try simp (maxSteps := 4000000) only [Act.put, List.setIfInBounds_toArray, List.set_cons_zero, List.set_cons_succ, List.getElem_toArray, List.getElem_cons_zero, List.getElem_cons_succ]
  refine wpAnyH_done (by kernel_rfl) ?_ _
  clear hHeld HTAKE
  obtain ⟨-, z0, z1, z2, z3, z4, z5, -⟩ := HZ2.out
  obtain ⟨f0, f1, f2, f3, f4, f5⟩ := HZ2.out.fzB
  go_wp2
  refine bodyPost_ret (v := .agg #[.int .i64 0, .int .i64 0, .int .i64 0, .int .i64 0, .int .i64 0, .bool false]) (by simp [results, Tryz.results26, go_sem, z0, z1, z2, z3, z4, z5]) rfl ⟨rfl, ?_⟩
  exact below_set6 HB2.out (by omega) _ _ _ _ _ _
end
end Go.Proofs.YtnfcpohbdkionaaGreatDoor
