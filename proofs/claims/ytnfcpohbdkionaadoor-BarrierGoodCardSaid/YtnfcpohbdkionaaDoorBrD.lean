/- Package barrier: Put; the statement's place. -/
import Derived.Test.YtnfcpohbdkionaaDoorBrC
import Derived.Test.YtnfcpohbdkionaaDoorMmD
import Derived.Test.YtnfcpohbdkionaaDoorMmN
import Derived.Deep.RegionHeld3
namespace Go.Proofs.YtnfcpohbdkionaaDoor
set_option maxRecDepth 100000
open Go.RowKit Go.ChangeMaps Go.MapKept
set_option linter.unusedVariables false
set_option linter.unusedSimpArgs false

section
variable {B lo g : Nat} {col : Nat → Nat} {M R P pg : Nat} {W : World} {σ : MS} {V : Nat → Value} {pc : Int} {ws : List Nat}
/-- A capability comes to a register: nothing else of what stood changes. -/
def BrPutPost (B lo g : Nat) (col : Nat → Nat) (M R P pg : Nat) (W : World) (σ : MS) (V : Nat → Value) (pc : Int) (ws : List Nat) (e : Ending) (w' : World) : Prop :=
  e = .returned (.int .i64 0) ∧ BPl B lo g col M R P pg w' σ V pc ws ∧ (∀ i, i < W.heap.size → i ≠ g → w'.heap[i]? = W.heap[i]?) ∧ W.heap.size ≤ w'.heap.size ∧ Below B W w'
set_option maxHeartbeats 1600000 in
theorem brput_out (q b l c p t : Int) (v : Bool) (b' l' c' p' t' : Int) (v' : Bool) (h : BPl B lo g col M R P pg W σ V pc ws) (hq : decide (0 ≤ q ∧ q < ((4 : Nat) : Int)) = false) (hg : GoodIs σ ws b l c p t v b' l' c' p' t' v') :
    Calls Tryd.prog 8 #[.agg #[.pointer (some ⟨M, 0, none⟩), .pointer (some ⟨R, 0, none⟩), .pointer (some ⟨P, 0, none⟩)], .int .i64 q, .agg #[.int .i64 b, .int .i64 l, .int .i64 c, .int .i64 p, .int .i64 t, .bool v]] W fun e w' => e = .returned (.int .i64 15) ∧ Below W.heap.size W w' := by
  have H := Lib.hid h
  have HQ := Lib.hid hq
  have HG := Lib.hid hg
  have HX := Lib.hid ((PlAt.new W M R P 31).below (alc0 _ (.cells #[.int .i64 b, .int .i64 l, .int .i64 c, .int .i64 p, .int .i64 t, .bool v] 25)))
  have HY := Lib.hid (CapAt.newB W (.cells #[.pointer (some ⟨M, 0, none⟩), .pointer (some ⟨R, 0, none⟩), .pointer (some ⟨P, 0, none⟩)] 31) b l c p t v 25)
  have HB := Lib.hid (alc (alc0 W (.cells #[.pointer (some ⟨M, 0, none⟩), .pointer (some ⟨R, 0, none⟩), .pointer (some ⟨P, 0, none⟩)] 31)) (.cells #[.int .i64 b, .int .i64 l, .int .i64 c, .int .i64 p, .int .i64 t, .bool v] 25))
  clear h hq hg
  go_enter Tryd.func8, Tryd.ntmps8
  go_upto_region 1 with (fail)
  generalize hw1 : (W.alloc (.cells #[.pointer (some ⟨M, 0, none⟩), .pointer (some ⟨R, 0, none⟩), .pointer (some ⟨P, 0, none⟩)] 31)).alloc (.cells #[.int .i64 b, .int .i64 l, .int .i64 c, .int .i64 p, .int .i64 t, .bool v] 25) = w1 at *
  clear hw1
  have HTAKE := Lib.hid (fun (w' : World) (h : PlAt W.heap.size w' M R P ∧ CapAt (W.heap.size + 1) w' b l c p t v) => And.intro h.1.2 h.2.2)
  refine wp_region_held_drew (S := fun w' => PlAt W.heap.size w' M R P ∧ CapAt (W.heap.size + 1) w' b l c p t v) (by kernel_rfl) ?_ (fun hHeld => ?_)
  · exact ⟨HX.out.below (Below.refl _ _).drew, HY.out.below (Below.refl _ _).drew⟩
  refine wpAnyH_take (i := 0) (v := ?_) rfl (by kernel_rfl) (by kernel_rfl) (by kernel_rfl) (fun _ _ _ h => h) (Or.inl ⟨by kernel_rfl, ?_⟩) (by assumption) ?_
  rotate_left
  · (intro w hSw; (try dsimp only at hSw); (try have hTk := Hid.out HTAKE _ hSw); go_simp)
    try (with_reducible rfl)
  rotate_left
  try simp (maxSteps := 4000000) only [Act.put, List.setIfInBounds_toArray, List.set_cons_zero, List.set_cons_succ, List.getElem_toArray, List.getElem_cons_zero, List.getElem_cons_succ]
  refine wpAnyH_take (i := 1) (v := ?_) rfl (by kernel_rfl) (by kernel_rfl) (by kernel_rfl) (fun _ _ _ h => h) (Or.inl ⟨by kernel_rfl, ?_⟩) (by assumption) ?_
  rotate_left
  · (intro w hSw; (try dsimp only at hSw); (try have hTk := Hid.out HTAKE _ hSw); go_simp)
    try (with_reducible rfl)
  rotate_left
  try simp (maxSteps := 4000000) only [Act.put, List.setIfInBounds_toArray, List.set_cons_zero, List.set_cons_succ, List.getElem_toArray, List.getElem_cons_zero, List.getElem_cons_succ]
  refine wpAnyH_take (i := 2) (v := ?_) rfl (by kernel_rfl) (by kernel_rfl) (by kernel_rfl) (fun _ _ _ h => h) (Or.inl ⟨by kernel_rfl, ?_⟩) (by assumption) ?_
  rotate_left
  · (intro w hSw; (try dsimp only at hSw); (try have hTk := Hid.out HTAKE _ hSw); go_simp)
    try (with_reducible rfl)
  rotate_left
  try simp (maxSteps := 4000000) only [Act.put, List.setIfInBounds_toArray, List.set_cons_zero, List.set_cons_succ, List.getElem_toArray, List.getElem_cons_zero, List.getElem_cons_succ]
  refine wpAnyH_take (i := 3) (v := ?_) rfl (by kernel_rfl) (by kernel_rfl) (by kernel_rfl) (fun _ _ _ h => h) (Or.inl ⟨by kernel_rfl, ?_⟩) (by assumption) ?_
  rotate_left
  · (intro w hSw; (try dsimp only at hSw); (try have hTk := Hid.out HTAKE _ hSw); go_simp)
    try (with_reducible rfl)
  rotate_left
  try simp (maxSteps := 4000000) only [Act.put, List.setIfInBounds_toArray, List.set_cons_zero, List.set_cons_succ, List.getElem_toArray, List.getElem_cons_zero, List.getElem_cons_succ]
  refine wpAnyH_take (i := 4) (v := ?_) rfl (by kernel_rfl) (by kernel_rfl) (by kernel_rfl) (fun _ _ _ h => h) (Or.inl ⟨by kernel_rfl, ?_⟩) (by assumption) ?_
  rotate_left
  · (intro w hSw; (try dsimp only at hSw); (try have hTk := Hid.out HTAKE _ hSw); go_simp)
    try (with_reducible rfl)
  rotate_left
  try simp (maxSteps := 4000000) only [Act.put, List.setIfInBounds_toArray, List.set_cons_zero, List.set_cons_succ, List.getElem_toArray, List.getElem_cons_zero, List.getElem_cons_succ]
  refine wpAnyH_ready (rs := [5]) (by kernel_rfl) (by simp) ?_
  refine AllReadyH.cons rfl (fun K2 hK2 => ?_) AllReadyH.nil
  go_simp
  with_reducible refine Calls.mono (brgood_any (H.out.later HB.out.drew) HG.out) ?_
  rintro e w2 ⟨rfl, hb⟩
  have hb' : Below w1.heap.size w1 w2 := thn (Below.refl _ _).drew hb
  have HB2 := Lib.hid (thn HB.out hb')
  refine hK2.out _ _ (⟨hHeld.1.below hb, hHeld.2.below hb⟩) (fun hHeld2 => ?_)
  clear hK2 K2 hHeld
  have hHeld := hHeld2
  clear hHeld2
  try simp (maxSteps := 4000000) only [Act.put, List.setIfInBounds_toArray, List.set_cons_zero, List.set_cons_succ]
  clear hb hb'
  refine wpAnyH_ready (rs := [6]) (by kernel_rfl) (by simp) ?_
  refine AllReadyH.cons rfl (fun K2 hK2 => ?_) AllReadyH.nil
  go_simp
  with_reducible refine Calls.mono (rput_out R g 4 q b' l' c' p' t' v' w2 V (H.out.later HB2.out).reg HQ.out) ?_
  rintro e w3 ⟨rfl, hb⟩
  have HB3 := Lib.hid (thn HB2.out hb)
  refine hK2.out _ _ (⟨hHeld.1.below hb, hHeld.2.below hb⟩) (fun hHeld2 => ?_)
  clear hK2 K2 hHeld
  have hHeld := hHeld2
  clear hHeld2
  try simp (maxSteps := 4000000) only [Act.put, List.setIfInBounds_toArray, List.set_cons_zero, List.set_cons_succ]
  clear hb
  refine wpAnyH_take (i := 7) (v := ?_) rfl (by kernel_rfl) (by kernel_rfl) (by kernel_rfl) (fun _ _ _ h => h) (Or.inl ⟨by kernel_rfl, ?_⟩) (by assumption) ?_
  rotate_left
  · (intro w hSw; (try dsimp only at hSw); (try have hTk := Hid.out HTAKE _ hSw); go_simp)
    try (with_reducible rfl)
  rotate_left
  try simp (maxSteps := 4000000) only [Act.put, List.setIfInBounds_toArray, List.set_cons_zero, List.set_cons_succ, List.getElem_toArray, List.getElem_cons_zero, List.getElem_cons_succ]
  refine wpAnyH_done (by kernel_rfl) ?_ _
  clear hHeld HTAKE
  go_wp2
  go_ret
  exact ⟨rfl, HB3.out⟩
set_option maxHeartbeats 1600000 in
theorem brput_in (q : Nat) (b l c p t : Int) (v : Bool) (b' l' c' p' t' : Int) (v' : Bool) (h : BPl B lo g col M R P pg W σ V pc ws) (hq : q < 4) (hg : GoodIs σ ws b l c p t v b' l' c' p' t' v') :
    Calls Tryd.prog 8 #[.agg #[.pointer (some ⟨M, 0, none⟩), .pointer (some ⟨R, 0, none⟩), .pointer (some ⟨P, 0, none⟩)], .int .i64 (q : Int), .agg #[.int .i64 b, .int .i64 l, .int .i64 c, .int .i64 p, .int .i64 t, .bool v]] W (BrPutPost B lo g col M R P pg W σ (putV V q #[.int .i64 b', .int .i64 l', .int .i64 c', .int .i64 p', .int .i64 t', .bool v']) pc ws) := by
  have H := Lib.hid h
  have HQ := Lib.hid hq
  have HG := Lib.hid hg
  have HX := Lib.hid ((PlAt.new W M R P 31).below (alc0 _ (.cells #[.int .i64 b, .int .i64 l, .int .i64 c, .int .i64 p, .int .i64 t, .bool v] 25)))
  have HY := Lib.hid (CapAt.newB W (.cells #[.pointer (some ⟨M, 0, none⟩), .pointer (some ⟨R, 0, none⟩), .pointer (some ⟨P, 0, none⟩)] 31) b l c p t v 25)
  have HB := Lib.hid (alc (alc0 W (.cells #[.pointer (some ⟨M, 0, none⟩), .pointer (some ⟨R, 0, none⟩), .pointer (some ⟨P, 0, none⟩)] 31)) (.cells #[.int .i64 b, .int .i64 l, .int .i64 c, .int .i64 p, .int .i64 t, .bool v] 25))
  have HGZ : Hid (g < W.heap.size) := Lib.hid h.reg.2.1
  clear h hq hg
  go_enter Tryd.func8, Tryd.ntmps8
  go_upto_region 1 with (fail)
  generalize hw1 : (W.alloc (.cells #[.pointer (some ⟨M, 0, none⟩), .pointer (some ⟨R, 0, none⟩), .pointer (some ⟨P, 0, none⟩)] 31)).alloc (.cells #[.int .i64 b, .int .i64 l, .int .i64 c, .int .i64 p, .int .i64 t, .bool v] 25) = w1 at *
  clear hw1
  have HTAKE := Lib.hid (fun (w' : World) (h : PlAt W.heap.size w' M R P ∧ CapAt (W.heap.size + 1) w' b l c p t v) => And.intro h.1.2 h.2.2)
  refine wp_region_held_drew (S := fun w' => PlAt W.heap.size w' M R P ∧ CapAt (W.heap.size + 1) w' b l c p t v) (by kernel_rfl) ?_ (fun hHeld => ?_)
  · exact ⟨HX.out.below (Below.refl _ _).drew, HY.out.below (Below.refl _ _).drew⟩
  refine wpAnyH_take (i := 0) (v := ?_) rfl (by kernel_rfl) (by kernel_rfl) (by kernel_rfl) (fun _ _ _ h => h) (Or.inl ⟨by kernel_rfl, ?_⟩) (by assumption) ?_
  rotate_left
  · (intro w hSw; (try dsimp only at hSw); (try have hTk := Hid.out HTAKE _ hSw); go_simp)
    try (with_reducible rfl)
  rotate_left
  try simp (maxSteps := 4000000) only [Act.put, List.setIfInBounds_toArray, List.set_cons_zero, List.set_cons_succ, List.getElem_toArray, List.getElem_cons_zero, List.getElem_cons_succ]
  refine wpAnyH_take (i := 1) (v := ?_) rfl (by kernel_rfl) (by kernel_rfl) (by kernel_rfl) (fun _ _ _ h => h) (Or.inl ⟨by kernel_rfl, ?_⟩) (by assumption) ?_
  rotate_left
  · (intro w hSw; (try dsimp only at hSw); (try have hTk := Hid.out HTAKE _ hSw); go_simp)
    try (with_reducible rfl)
  rotate_left
  try simp (maxSteps := 4000000) only [Act.put, List.setIfInBounds_toArray, List.set_cons_zero, List.set_cons_succ, List.getElem_toArray, List.getElem_cons_zero, List.getElem_cons_succ]
  refine wpAnyH_take (i := 2) (v := ?_) rfl (by kernel_rfl) (by kernel_rfl) (by kernel_rfl) (fun _ _ _ h => h) (Or.inl ⟨by kernel_rfl, ?_⟩) (by assumption) ?_
  rotate_left
  · (intro w hSw; (try dsimp only at hSw); (try have hTk := Hid.out HTAKE _ hSw); go_simp)
    try (with_reducible rfl)
  rotate_left
  try simp (maxSteps := 4000000) only [Act.put, List.setIfInBounds_toArray, List.set_cons_zero, List.set_cons_succ, List.getElem_toArray, List.getElem_cons_zero, List.getElem_cons_succ]
  refine wpAnyH_take (i := 3) (v := ?_) rfl (by kernel_rfl) (by kernel_rfl) (by kernel_rfl) (fun _ _ _ h => h) (Or.inl ⟨by kernel_rfl, ?_⟩) (by assumption) ?_
  rotate_left
  · (intro w hSw; (try dsimp only at hSw); (try have hTk := Hid.out HTAKE _ hSw); go_simp)
    try (with_reducible rfl)
  rotate_left
  try simp (maxSteps := 4000000) only [Act.put, List.setIfInBounds_toArray, List.set_cons_zero, List.set_cons_succ, List.getElem_toArray, List.getElem_cons_zero, List.getElem_cons_succ]
  refine wpAnyH_take (i := 4) (v := ?_) rfl (by kernel_rfl) (by kernel_rfl) (by kernel_rfl) (fun _ _ _ h => h) (Or.inl ⟨by kernel_rfl, ?_⟩) (by assumption) ?_
  rotate_left
  · (intro w hSw; (try dsimp only at hSw); (try have hTk := Hid.out HTAKE _ hSw); go_simp)
    try (with_reducible rfl)
  rotate_left
  try simp (maxSteps := 4000000) only [Act.put, List.setIfInBounds_toArray, List.set_cons_zero, List.set_cons_succ, List.getElem_toArray, List.getElem_cons_zero, List.getElem_cons_succ]
  refine wpAnyH_ready (rs := [5]) (by kernel_rfl) (by simp) ?_
  refine AllReadyH.cons rfl (fun K2 hK2 => ?_) AllReadyH.nil
  go_simp
  with_reducible refine Calls.mono (brgood_any (H.out.later HB.out.drew) HG.out) ?_
  rintro e w2 ⟨rfl, hb⟩
  have hb' : Below w1.heap.size w1 w2 := thn (Below.refl _ _).drew hb
  have HB2 := Lib.hid (thn HB.out hb')
  refine hK2.out _ _ (⟨hHeld.1.below hb, hHeld.2.below hb⟩) (fun hHeld2 => ?_)
  clear hK2 K2 hHeld
  have hHeld := hHeld2
  clear hHeld2
  try simp (maxSteps := 4000000) only [Act.put, List.setIfInBounds_toArray, List.set_cons_zero, List.set_cons_succ]
  clear hb hb'
  refine wpAnyH_ready (rs := [6]) (by kernel_rfl) (by simp) ?_
  refine AllReadyH.cons rfl (fun K2 hK2 => ?_) AllReadyH.nil
  go_simp
  with_reducible refine Calls.mono (rput_in R g 4 q b' l' c' p' t' v' w2 V (H.out.later HB2.out).reg HQ.out HG.out.may) ?_
  rintro e w3 ⟨rfl, hr, hk⟩
  have HF := Lib.hid ((H.out.later HB2.out).put hr hk)
  have HK := Lib.hid hk
  refine hK2.out _ _ (⟨hHeld.1.keep hk.1.size (hk.2 _ hHeld.1.1 (by have := HGZ.out; omega)), hHeld.2.keep hk.1.size (hk.2 _ hHeld.2.1 (by have := HGZ.out; omega))⟩) (fun hHeld2 => ?_)
  clear hK2 K2 hHeld
  have hHeld := hHeld2
  clear hHeld2
  try simp (maxSteps := 4000000) only [Act.put, List.setIfInBounds_toArray, List.set_cons_zero, List.set_cons_succ]
  clear hr hk
  refine wpAnyH_take (i := 7) (v := ?_) rfl (by kernel_rfl) (by kernel_rfl) (by kernel_rfl) (fun _ _ _ h => h) (Or.inl ⟨by kernel_rfl, ?_⟩) (by assumption) ?_
  rotate_left
  · (intro w hSw; (try dsimp only at hSw); (try have hTk := Hid.out HTAKE _ hSw); go_simp)
    try (with_reducible rfl)
  rotate_left
  try simp (maxSteps := 4000000) only [Act.put, List.setIfInBounds_toArray, List.set_cons_zero, List.set_cons_succ, List.getElem_toArray, List.getElem_cons_zero, List.getElem_cons_succ]
  refine wpAnyH_done (by kernel_rfl) ?_ _
  clear hHeld HTAKE
  go_wp2
  go_ret
  exact ⟨rfl, HF.out, fun i hi hn => (HK.out.2 i (by have := HB2.out.size; omega) hn).trans (HB2.out.block i hi), by have := HB2.out.size; have := HK.out.1.size; omega, (HB2.out.mono H.out.mem.size).trans (HK.out.1.mono H.out.br.2.1)⟩
end
end Go.Proofs.YtnfcpohbdkionaaDoor
