/- Memory: a new one. -/
import Derived.Test.YtljjcomedjdpaaaDoorMmB
namespace Go.Proofs.YtljjcomedjdpaaaDoor
set_option maxRecDepth 100000
open Go.RowKit Go.ChangeMaps Go.MapKept
set_option linter.unusedVariables false
set_option linter.unusedSimpArgs false

theorem cntF_none (n : Nat) : cntF (fun _ => false) n = 0 := by
  induction n with
  | zero => rfl
  | succ n ih => rw [cntF, ih]; rfl
theorem STL.mono {B B' g b : Nat} {W : World} {l : List (Nat × Nat)} {c : Nat → Nat} (h : STL B g b W l c) (hB : B' ≤ B) : STL B' g b W l c := by
  obtain ⟨k1, ⟨k2, k3, k4, k5, k6⟩, k7, k8, k9⟩ := h
  exact ⟨k1, ⟨by omega, by omega, k4, k5, k6⟩, k7, fun pq hpq => by
    obtain ⟨m1, m2, m3, m4⟩ := k8 pq hpq
    exact ⟨m1, m2, by omega, m4⟩, k9⟩
/-- A new memory. -/
def newS (k : Int) : MS := { pg := fun _ => false, most := k, peak := 0, c := fun _ => 0, f := fun _ => 0, kp := fun _ => false, kv := fun _ _ => 0 }
def colN (w0 p sg sb t lo2 p2 kb M i : Nat) : Nat :=
  if i < w0 then 0 else if i ≤ p then 2 else if i = sg ∨ i = sb then 3 else if i = t then 4 else if lo2 ≤ i ∧ i ≤ p2 then 5 else if i = kb then 6 else if i = M then 1 else 0
theorem new_end {W v1 v2 v3 v4 w5 : World} {p g sg sb g2 p2 ck : Nat} {k : Int} (ht : TzTab W) (hp : PgIs W.heap.size p g p v1 0 k 0 (List.replicate 16 0)) (b1 : Below W.heap.size W v1) (hs : STL v1.heap.size sg sb v2 [] (fun _ => 0)) (b2 : Below v1.heap.size v1 v2)
    (htg : TagIs v2.heap.size v3 (fun _ => 0)) (b3 : Below v2.heap.size v2 v3) (hsl : SlIs v3.heap.size p2 g2 p2 v4 0 (List.replicate 256 0)) (b4 : Below v3.heap.size v3 v4) (b5 : Below v4.heap.size v4 w5)
    (hk : w5.heap[v4.heap.size]? = some (.map #[] ck)) (hM : MCells (v4.heap.size + 1) p sg v2.heap.size p2 v4.heap.size w5) (hz : v4.heap.size + 1 < w5.heap.size) :
    MEM W.heap.size (colN W.heap.size p sg sb v2.heap.size v3.heap.size p2 v4.heap.size (v4.heap.size + 1)) (v4.heap.size + 1) w5 (newS k) := by
  have z1 := b1.size
  have z2 := b2.size
  have z3 := b3.size
  have z4 := b4.size
  have z5 := b5.size
  have hp1 := hp.1.1
  have hp2 := hp.2.1.2
  obtain ⟨s1, s2, s3, s4, s5⟩ := hs.2.1
  have ht1 := htg.1
  have hl1 := hsl.1.1
  have hl2 := hsl.2.1.2
  have c45 : Below v3.heap.size v3 w5 := b4.trans (b5.mono z4)
  have c35 : Below v2.heap.size v2 w5 := b3.trans (c45.mono z3)
  have c25 : Below v1.heap.size v1 w5 := b2.trans (c35.mono z2)
  have c15 : Below W.heap.size W w5 := b1.trans (c25.mono z1)
  refine ⟨fun i hi => ?_, ?_, ⟨W, ht, Nat.le_refl _, c15⟩, p, sg, v2.heap.size, p2, v4.heap.size, hM, ⟨W.heap.size, p, g, _, ?_, List.length_replicate .., fun y => bitB_none 16 y, fun i a b => ?_⟩, ⟨sb, [], ?_, ?_, ?_, fun pq h => absurd h (List.not_mem_nil), fun _ => (by decide : 0 < 256)⟩, ⟨htg.below c45, ?_⟩, ⟨v3.heap.size, p2, g2, _, ?_, List.length_replicate .., fun y => bitB_none 256 y, fun i a b => ?_⟩, ⟨[], ⟨#[], ck, hk, rfl, List.nodup_nil, fun e h => absurd h (List.not_mem_nil)⟩, by omega, ?_, fun e h => absurd h (List.not_mem_nil), fun x => ⟨fun h => (by cases h), fun ⟨e, h, _⟩ => absurd h (List.not_mem_nil)⟩⟩⟩
  · unfold colN at hi
    by_cases h0 : i < W.heap.size
    · rw [if_pos h0] at hi
      exact absurd rfl hi
    · refine ⟨by omega, ?_⟩
      by_cases h1 : i ≤ v4.heap.size + 1
      · omega
      · rw [if_neg h0, if_neg (by omega), if_neg (by omega), if_neg (by omega), if_neg (by omega), if_neg (by omega), if_neg (by omega)] at hi
        exact absurd rfl hi
  · unfold colN
    rw [if_neg (by omega), if_neg (by omega), if_neg (by omega), if_neg (by omega), if_neg (by omega), if_neg (by omega), if_pos rfl]
  · show PgIs _ _ _ _ _ ((cntF (fun _ => false) 1024 : Nat) : Int) _ _ _
    rw [cntF_none]
    exact hp.below c25 hp2 c25.size
  · unfold colN
    rw [if_neg (by omega), if_pos b]
  · exact (hs.below c35).mono z1
  · unfold colN
    rw [if_neg (by omega), if_neg (by omega), if_pos (.inl rfl)]
  · unfold colN
    rw [if_neg (by omega), if_neg (by omega), if_pos (.inr rfl)]
  · unfold colN
    rw [if_neg (by omega), if_neg (by omega), if_neg (by omega), if_pos rfl]
  · show SlIs _ _ _ _ _ ((cntF (fun _ => false) 16384 : Nat) : Int) _
    rw [cntF_none]
    exact hsl.below b5 hl2 b5.size
  · unfold colN
    rw [if_neg (by omega), if_neg (by omega), if_neg (by omega), if_neg (by omega), if_pos ⟨a, b⟩]
  · unfold colN
    rw [if_neg (by omega), if_neg (by omega), if_neg (by omega), if_neg (by omega), if_neg (by omega), if_pos rfl]
def MNewPost (k : Int) (W : World) (e : Ending) (w' : World) : Prop :=
  ∃ M col, e = .returned (.pointer (some ⟨M, 0, none⟩)) ∧ MEM W.heap.size col M w' (newS k) ∧ Below W.heap.size W w'
theorem mnew (m k : Int) (W : World) (ht : TzTab W) (hk : min (max m 0) 1024 = k) :
    Calls Tryd.prog 20 #[.int .i64 m] W (MNewPost k W) := by
  have hmm := fun w => run_makeMap (P := Tryd.prog) 76 w
  have HK := Lib.hid hk
  have HT := Lib.hid ht
  clear hk ht
  go_enter Tryd.func20, Tryd.ntmps20
  go_wp2_with fail
  refine (pnew_any m k _ HK.out).mono ?_
  rintro e v1 ⟨g, p, rfl, hp, b1⟩
  have HP := Lib.hid hp
  have HB1 := Lib.hid b1
  clear hp b1
  go_wp2_with fail
  refine (snew _).mono ?_
  rintro e v2 ⟨sg, sb, rfl, hs, b2⟩
  have HS := Lib.hid hs
  have HB2 := Lib.hid b2
  clear hs b2
  go_wp2_with fail
  refine (tnew_any _).mono ?_
  rintro e v3 ⟨rfl, ht, b3⟩
  have HTG := Lib.hid ht
  have HB3 := Lib.hid b3
  clear ht b3
  go_wp2_with fail
  refine (slnew_any _).mono ?_
  rintro e v4 ⟨g2, p2, rfl, hsl, b4⟩
  have HSL := Lib.hid hsl
  have HB4 := Lib.hid b4
  clear hsl b4
  go_wp2
  go_ret
  refine ⟨_, _, rfl, new_end HT.out HP.out HB1.out HS.out HB2.out HTG.out HB3.out HSL.out HB4.out (alc (alc0 _ _) _) (ck := 0) ?_ ?_ ?_, ?_⟩
  · first | (simp; done) | (rw [Below.heap_alloc _ _ _ (by simp)]; show (v4.heap.push _)[v4.heap.size]? = _; simp)
  · exact ⟨by simp, by simp, by simp, by simp, by simp⟩
  · simp
  · have z1 := HB1.out.size
    have z2 := HB2.out.size
    have z3 := HB3.out.size
    have z4 := HB4.out.size
    exact ((((HB1.out.trans (HB2.out.mono z1)).trans (HB3.out.mono (by omega))).trans (HB4.out.mono (by omega))).alloc (by omega) _).alloc (by simp; omega) _
end Go.Proofs.YtljjcomedjdpaaaDoor

