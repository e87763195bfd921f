/- MmN, BrD. -/
import Derived.Test.YtnfcpohbdkionaaGreatDoorZ18
import Derived.Test.YtnfcpohbdkionaaGreatDoorZ25
import Derived.Test.YtnfcpohbdkionaaGreatDoorZ19
import Derived.Deep.RegionHeld3
namespace Go.Proofs.YtnfcpohbdkionaaGreatDoor
set_option maxRecDepth 100000
open Go.RowKit Go.ChangeMaps Go.MapKept
set_option linter.unusedVariables false
set_option linter.unusedSimpArgs false
theorem cntF_none (n : Nat) : cntF (fun _ => false) n = 0 := by
  induction n with
  | zero => rfl
  | succ n ih => rw [cntF, ih]; rfl
theorem STL.mono {B B' g b : Nat} {W : World} {l : List (Nat × Nat)} {c : Nat → Nat} (h : STL B g b W l c) (hB : B' ≤ B) : STL B' g b W l c := by
  obtain ⟨k1, ⟨k2, k3, k4, k5, k6⟩, k7, k8, k9⟩ := h
  exact ⟨k1, ⟨by omega, by omega, k4, k5, k6⟩, k7, fun pq hpq => by
    obtain ⟨m1, m2, m3, m4⟩ := k8 pq hpq
    exact ⟨m1, m2, by omega, m4⟩, k9⟩
/-- A new memory. -/
def newS (k : Int) : MS := { pg := fun _ => false, most := k, peak := 0, c := fun _ => 0, f := fun _ => 0, kp := fun _ => false, kv := fun _ _ => 0 }
def colN (w0 p sg sb t lo2 p2 kb M i : Nat) : Nat :=
  if i < w0 then 0 else if i ≤ p then 2 else if i = sg ∨ i = sb then 3 else if i = t then 4 else if lo2 ≤ i ∧ i ≤ p2 then 5 else if i = kb then 6 else if i = M then 1 else 0
theorem new_end {W v1 v2 v3 v4 w5 : World} {p g sg sb g2 p2 ck : Nat} {k : Int} (ht : TzTab W) (hp : PgIs W.heap.size p g p v1 0 k 0 (List.replicate 16 0)) (b1 : Below W.heap.size W v1) (hs : STL v1.heap.size sg sb v2 [] (fun _ => 0)) (b2 : Below v1.heap.size v1 v2)
    (htg : TagIs v2.heap.size v3 (fun _ => 0)) (b3 : Below v2.heap.size v2 v3) (hsl : SlIs v3.heap.size p2 g2 p2 v4 0 (List.replicate 256 0)) (b4 : Below v3.heap.size v3 v4) (b5 : Below v4.heap.size v4 w5)
    (hk : w5.heap[v4.heap.size]? = some (.map #[] ck)) (hM : MCells (v4.heap.size + 1) p sg v2.heap.size p2 v4.heap.size w5) (hz : v4.heap.size + 1 < w5.heap.size) :
    MEM W.heap.size (colN W.heap.size p sg sb v2.heap.size v3.heap.size p2 v4.heap.size (v4.heap.size + 1)) (v4.heap.size + 1) w5 (newS k) := by
  have z1 := b1.size
  have z2 := b2.size
  have z3 := b3.size
  have z4 := b4.size
  have z5 := b5.size
  have hp1 := hp.1.1
  have hp2 := hp.2.1.2
  obtain ⟨s1, s2, s3, s4, s5⟩ := hs.2.1
  have ht1 := htg.1
  have hl1 := hsl.1.1
  have hl2 := hsl.2.1.2
  have c45 : Below v3.heap.size v3 w5 := b4.trans (b5.mono z4)
  have c35 : Below v2.heap.size v2 w5 := b3.trans (c45.mono z3)
  have c25 : Below v1.heap.size v1 w5 := b2.trans (c35.mono z2)
  have c15 : Below W.heap.size W w5 := b1.trans (c25.mono z1)
  refine ⟨fun i hi => ?_, ?_, ⟨W, ht, Nat.le_refl _, c15⟩, p, sg, v2.heap.size, p2, v4.heap.size, hM, ⟨W.heap.size, p, g, _, ?_, List.length_replicate .., fun y => bitB_none 16 y, fun i a b => ?_⟩, ⟨sb, [], ?_, ?_, ?_, fun pq h => absurd h (List.not_mem_nil), fun _ => (by decide : 0 < 256)⟩, ⟨htg.below c45, ?_⟩, ⟨v3.heap.size, p2, g2, _, ?_, List.length_replicate .., fun y => bitB_none 256 y, fun i a b => ?_⟩, ⟨[], ⟨#[], ck, hk, rfl, List.nodup_nil, fun e h => absurd h (List.not_mem_nil)⟩, by omega, ?_, fun e h => absurd h (List.not_mem_nil), fun x => ⟨fun h => (by cases h), fun ⟨e, h, _⟩ => absurd h (List.not_mem_nil)⟩⟩⟩
  · unfold colN at hi
    by_cases h0 : i < W.heap.size
    · rw [if_pos h0] at hi
      exact absurd rfl hi
    · refine ⟨by omega, ?_⟩
      by_cases h1 : i ≤ v4.heap.size + 1
      · omega
      · rw [if_neg h0, if_neg (by omega), if_neg (by omega), if_neg (by omega), if_neg (by omega), if_neg (by omega), if_neg (by omega)] at hi
        exact absurd rfl hi
  · unfold colN
    rw [if_neg (by omega), if_neg (by omega), if_neg (by omega), if_neg (by omega), if_neg (by omega), if_neg (by omega), if_pos rfl]
  · show PgIs _ _ _ _ _ ((cntF (fun _ => false) 1024 : Nat) : Int) _ _ _
    rw [cntF_none]
    exact hp.below c25 hp2 c25.size
  · unfold colN
    rw [if_neg (by omega), if_pos b]
  · exact (hs.below c35).mono z1
  · unfold colN
    rw [if_neg (by omega), if_neg (by omega), if_pos (.inl rfl)]
  · unfold colN
    rw [if_neg (by omega), if_neg (by omega), if_pos (.inr rfl)]
  · unfold colN
    rw [if_neg (by omega), if_neg (by omega), if_neg (by omega), if_pos rfl]
  · show SlIs _ _ _ _ _ ((cntF (fun _ => false) 16384 : Nat) : Int) _
    rw [cntF_none]
    exact hsl.below b5 hl2 b5.size
  · unfold colN
    rw [if_neg (by omega), if_neg (by omega), if_neg (by omega), if_neg (by omega), if_pos ⟨a, b⟩]
  · unfold colN
    rw [if_neg (by omega), if_neg (by omega), if_neg (by omega), if_neg (by omega), if_neg (by omega), if_pos rfl]
def MNewPost (k : Int) (W : World) (e : Ending) (w' : World) : Prop :=
  ∃ M col, e = .returned (.pointer (some ⟨M, 0, none⟩)) ∧ MEM W.heap.size col M w' (newS k) ∧ Below W.heap.size W w'
theorem mnew (m k : Int) (W : World) (ht : TzTab W) (hk : min (max m 0) 1024 = k) :
    Calls Tryz.prog 19 #[.int .i64 m] W (MNewPost k W) := by
  have hmm := fun w => run_makeMap (P := Tryz.prog) 67 w
  have HK := Lib.hid hk
  have HT := Lib.hid ht
  clear hk ht
  go_enter Tryz.func19, Tryz.ntmps19
  go_wp2_with fail
  refine (pnew_any m k _ HK.out).mono ?_
  rintro e v1 ⟨g, p, rfl, hp, b1⟩
  have HP := Lib.hid hp
  have HB1 := Lib.hid b1
  clear hp b1
  go_wp2_with fail
  refine (snew _).mono ?_
  rintro e v2 ⟨sg, sb, rfl, hs, b2⟩
  have HS := Lib.hid hs
  have HB2 := Lib.hid b2
  clear hs b2
  go_wp2_with fail
  refine (tnew_any _).mono ?_
  rintro e v3 ⟨rfl, ht, b3⟩
  have HTG := Lib.hid ht
  have HB3 := Lib.hid b3
  clear ht b3
  go_wp2_with fail
  refine (slnew_any _).mono ?_
  rintro e v4 ⟨g2, p2, rfl, hsl, b4⟩
  have HSL := Lib.hid hsl
  have HB4 := Lib.hid b4
  clear hsl b4
  go_wp2
  go_ret
  refine ⟨_, _, rfl, new_end HT.out HP.out HB1.out HS.out HB2.out HTG.out HB3.out HSL.out HB4.out (alc (alc0 _ _) _) (ck := 0) ?_ ?_ ?_, ?_⟩
  · first | (simp; done) | (rw [Below.heap_alloc _ _ _ (by simp)]; show (v4.heap.push _)[v4.heap.size]? = _; simp)
  · exact ⟨by simp, by simp, by simp, by simp, by simp⟩
  · simp
  · have z1 := HB1.out.size
    have z2 := HB2.out.size
    have z3 := HB3.out.size
    have z4 := HB4.out.size
    exact ((((HB1.out.trans (HB2.out.mono z1)).trans (HB3.out.mono (by omega))).trans (HB4.out.mono (by omega))).alloc (by omega) _).alloc (by simp; omega) _
end Go.Proofs.YtnfcpohbdkionaaGreatDoor
namespace Go.Proofs.YtnfcpohbdkionaaGreatDoor
set_option maxRecDepth 100000
open Go.RowKit Go.ChangeMaps Go.MapKept
set_option linter.unusedVariables false
set_option linter.unusedSimpArgs false
section
variable {B lo g : Nat} {col : Nat → Nat} {M R P pg : Nat} {W : World} {σ : MS} {V : Nat → Value} {pc : Int} {ws : List Nat}
/-- A capability comes to a register: nothing else of what stood changes. -/
def BrPutPost (B lo g : Nat) (col : Nat → Nat) (M R P pg : Nat) (W : World) (σ : MS) (V : Nat → Value) (pc : Int) (ws : List Nat) (e : Ending) (w' : World) : Prop :=
  e = .returned (.int .i64 0) ∧ BPl B lo g col M R P pg w' σ V pc ws ∧ (∀ i, i < W.heap.size → i ≠ g → w'.heap[i]? = W.heap[i]?) ∧ W.heap.size ≤ w'.heap.size ∧ Below B W w'
set_option maxHeartbeats 1600000 in
theorem brput_in (q : Nat) (b l c p t : Int) (v : Bool) (b' l' c' p' t' : Int) (v' : Bool) (h : BPl B lo g col M R P pg W σ V pc ws) (hq : q < 4) (hg : GoodIs σ ws b l c p t v b' l' c' p' t' v') :
    Calls Tryz.prog 17 #[.agg #[.pointer (some ⟨M, 0, none⟩), .pointer (some ⟨R, 0, none⟩), .pointer (some ⟨P, 0, none⟩)], .int .i64 (q : Int), .agg #[.int .i64 b, .int .i64 l, .int .i64 c, .int .i64 p, .int .i64 t, .bool v]] W (BrPutPost B lo g col M R P pg W σ (putV V q #[.int .i64 b', .int .i64 l', .int .i64 c', .int .i64 p', .int .i64 t', .bool v']) pc ws) := by
  have H := Lib.hid h
  have HQ := Lib.hid hq
  have HG := Lib.hid hg
  have HX := Lib.hid ((PlAt.new W M R P 31).below (alc0 _ (.cells #[.int .i64 b, .int .i64 l, .int .i64 c, .int .i64 p, .int .i64 t, .bool v] 25)))
  have HY := Lib.hid (CapAt.newB W (.cells #[.pointer (some ⟨M, 0, none⟩), .pointer (some ⟨R, 0, none⟩), .pointer (some ⟨P, 0, none⟩)] 31) b l c p t v 25)
  have HB := Lib.hid (alc (alc0 W (.cells #[.pointer (some ⟨M, 0, none⟩), .pointer (some ⟨R, 0, none⟩), .pointer (some ⟨P, 0, none⟩)] 31)) (.cells #[.int .i64 b, .int .i64 l, .int .i64 c, .int .i64 p, .int .i64 t, .bool v] 25))
  have HGZ : Hid (g < W.heap.size) := Lib.hid h.reg.2.1
  clear h hq hg
  go_enter Tryz.func17, Tryz.ntmps17
  go_upto_region 1 with (fail)
  generalize hw1 : (W.alloc (.cells #[.pointer (some ⟨M, 0, none⟩), .pointer (some ⟨R, 0, none⟩), .pointer (some ⟨P, 0, none⟩)] 31)).alloc (.cells #[.int .i64 b, .int .i64 l, .int .i64 c, .int .i64 p, .int .i64 t, .bool v] 25) = w1 at *
  clear hw1
  have HTAKE := Lib.hid (fun (w' : World) (h : PlAt W.heap.size w' M R P ∧ CapAt (W.heap.size + 1) w' b l c p t v) => And.intro h.1.2 h.2.2)
  refine wp_region_held_drew (S := fun w' => PlAt W.heap.size w' M R P ∧ CapAt (W.heap.size + 1) w' b l c p t v) (by kernel_rfl) ?_ (fun hHeld => ?_)
  · exact ⟨HX.out.below (Below.refl _ _).drew, HY.out.below (Below.refl _ _).drew⟩
  refine wpAnyH_take (i := 0) (v := ?_) rfl (by kernel_rfl) (by kernel_rfl) (by kernel_rfl) (fun _ _ _ h => h) (Or.inl ⟨by kernel_rfl, ?_⟩) (by assumption) ?_
  rotate_left
  · (intro w hSw; (try dsimp only at hSw); (try have hTk := Hid.out HTAKE _ hSw); go_simp)
    try (with_reducible rfl)
  rotate_left
  try simp (maxSteps := 4000000) only [Act.put, List.setIfInBounds_toArray, List.set_cons_zero, List.set_cons_succ, List.getElem_toArray, List.getElem_cons_zero, List.getElem_cons_succ]
  refine wpAnyH_take (i := 1) (v := ?_) rfl (by kernel_rfl) (by kernel_rfl) (by kernel_rfl) (fun _ _ _ h => h) (Or.inl ⟨by kernel_rfl, ?_⟩) (by assumption) ?_
  rotate_left
  · (intro w hSw; (try dsimp only at hSw); (try have hTk := Hid.out HTAKE _ hSw); go_simp)
    try (with_reducible rfl)
  rotate_left
  try simp (maxSteps := 4000000) only [Act.put, List.setIfInBounds_toArray, List.set_cons_zero, List.set_cons_succ, List.getElem_toArray, List.getElem_cons_zero, List.getElem_cons_succ]
  refine wpAnyH_take (i := 2) (v := ?_) rfl (by kernel_rfl) (by kernel_rfl) (by kernel_rfl) (fun _ _ _ h => h) (Or.inl ⟨by kernel_rfl, ?_⟩) (by assumption) ?_
  rotate_left
  · (intro w hSw; (try dsimp only at hSw); (try have hTk := Hid.out HTAKE _ hSw); go_simp)
    try (with_reducible rfl)
  rotate_left
  try simp (maxSteps := 4000000) only [Act.put, List.setIfInBounds_toArray, List.set_cons_zero, List.set_cons_succ, List.getElem_toArray, List.getElem_cons_zero, List.getElem_cons_succ]
  refine wpAnyH_take (i := 3) (v := ?_) rfl (by kernel_rfl) (by kernel_rfl) (by kernel_rfl) (fun _ _ _ h => h) (Or.inl ⟨by kernel_rfl, ?_⟩) (by assumption) ?_
  rotate_left
  · (intro w hSw; (try dsimp only at hSw); (try have hTk := Hid.out HTAKE _ hSw); go_simp)
    try (with_reducible rfl)
  rotate_left
  try simp (maxSteps := 4000000) only [Act.put, List.setIfInBounds_toArray, List.set_cons_zero, List.set_cons_succ, List.getElem_toArray, List.getElem_cons_zero, List.getElem_cons_succ]
  refine wpAnyH_take (i := 4) (v := ?_) rfl (by kernel_rfl) (by kernel_rfl) (by kernel_rfl) (fun _ _ _ h => h) (Or.inl ⟨by kernel_rfl, ?_⟩) (by assumption) ?_
  rotate_left
  · (intro w hSw; (try dsimp only at hSw); (try have hTk := Hid.out HTAKE _ hSw); go_simp)
    try (with_reducible rfl)
  rotate_left
  try simp (maxSteps := 4000000) only [Act.put, List.setIfInBounds_toArray, List.set_cons_zero, List.set_cons_succ, List.getElem_toArray, List.getElem_cons_zero, List.getElem_cons_succ]
  refine wpAnyH_ready (rs := [5]) (by kernel_rfl) (by simp) ?_
  refine AllReadyH.cons rfl (fun K2 hK2 => ?_) AllReadyH.nil
  go_simp
  with_reducible refine Calls.mono (brgood_any (H.out.later HB.out.drew) HG.out) ?_
  rintro e w2 ⟨rfl, hb⟩
  have hb' : Below w1.heap.size w1 w2 := thn (Below.refl _ _).drew hb
  have HB2 := Lib.hid (thn HB.out hb')
  refine hK2.out _ _ (⟨hHeld.1.below hb, hHeld.2.below hb⟩) (fun hHeld2 => ?_)
  clear hK2 K2 hHeld
  have hHeld := hHeld2
  clear hHeld2
  try simp (maxSteps := 4000000) only [Act.put, List.setIfInBounds_toArray, List.set_cons_zero, List.set_cons_succ]
  clear hb hb'
  refine wpAnyH_ready (rs := [6]) (by kernel_rfl) (by simp) ?_
  refine AllReadyH.cons rfl (fun K2 hK2 => ?_) AllReadyH.nil
  go_simp
  with_reducible refine Calls.mono (rput_in R g 4 q b' l' c' p' t' v' w2 V (H.out.later HB2.out).reg HQ.out HG.out.may) ?_
  rintro e w3 ⟨rfl, hr, hk⟩
  have HF := Lib.hid ((H.out.later HB2.out).put hr hk)
  have HK := Lib.hid hk
  refine hK2.out _ _ (⟨hHeld.1.keep hk.1.size (hk.2 _ hHeld.1.1 (by have := HGZ.out; omega)), hHeld.2.keep hk.1.size (hk.2 _ hHeld.2.1 (by have := HGZ.out; omega))⟩) (fun hHeld2 => ?_)
  clear hK2 K2 hHeld
  have hHeld := hHeld2
  clear hHeld2
  try simp (maxSteps := 4000000) only [Act.put, List.setIfInBounds_toArray, List.set_cons_zero, List.set_cons_succ]
  clear hr hk
  refine wpAnyH_take (i := 7) (v := ?_) rfl (by kernel_rfl) (by kernel_rfl) (by kernel_rfl) (fun _ _ _ h => h) (Or.inl ⟨by kernel_rfl, ?_⟩) (by assumption) ?_
  rotate_left
  · (intro w hSw; (try dsimp only at hSw); (try have hTk := Hid.out HTAKE _ hSw); go_simp)
    try (with_reducible rfl)
  rotate_left
  try simp (maxSteps := 4000000) only [Act.put, List.setIfInBounds_toArray, List.set_cons_zero, List.set_cons_succ, List.getElem_toArray, List.getElem_cons_zero, List.getElem_cons_succ]
  refine wpAnyH_done (by kernel_rfl) ?_ _
  clear hHeld HTAKE
  go_wp2
  go_ret
  exact ⟨rfl, HF.out, fun i hi hn => (HK.out.2 i (by have := HB2.out.size; omega) hn).trans (HB2.out.block i hi), by have := HB2.out.size; have := HK.out.1.size; omega, (HB2.out.mono H.out.mem.size).trans (HK.out.1.mono H.out.br.2.1)⟩
end
end Go.Proofs.YtnfcpohbdkionaaGreatDoor
