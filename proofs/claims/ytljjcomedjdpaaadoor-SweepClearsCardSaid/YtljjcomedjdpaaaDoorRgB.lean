/- Contracts of package regs beside memory: List, Count, Meets, Clear. -/
import Derived.Test.YtljjcomedjdpaaaDoorRgA
import Derived.Test.YtljjcomedjdpaaaDoorSpanK
import Derived.Test.YtljjcomedjdpaaaDoorZb
import Derived.Laws.OwnMore
import Derived.Deep.RegionHeld3
import Derived.Deep.QuietTactic
import Derived.BigQuiet
namespace Go.Proofs.YtljjcomedjdpaaaDoor
set_option maxRecDepth 100000
open Go.RowKit
set_option linter.unusedVariables false
set_option linter.unusedSimpArgs false

set_option maxHeartbeats 800000 in
theorem rclear_no (p g k h : Nat) (W : World) (V : Nat → Value) (H : RegAt p g k W V) (hh : h < k) (e5 : V (h * 6 + 5) = .bool false) :
    Calls Tryd.prog 63 #[.pointer (some ⟨p, 0, none⟩), .int .i64 (h : Nat)] W fun e w' => e = .returned (.bool false) ∧ W = w' := by
  have HH := Lib.hid H
  obtain ⟨h1, h2, h3, h4, h5, h6⟩ := H
  have c5 := (h6 (h * 6 + 5) (by omega)).1
  rw [e5] at c5
  have hhi : (h : Int) < k := by omega
  clear h6 e5
  go_enter Tryd.func63, Tryd.ntmps63
  go_wp2_with fail
  refine (rthere_any p g k h _ V HH.out true (by simp; omega)).mono ?_
  rintro e w' ⟨rfl, rfl⟩
  go_wp2
  go_ret
  exact ⟨rfl, rfl⟩
set_option maxHeartbeats 800000 in
theorem rclear_yes (p g k h : Nat) (W : World) (V : Nat → Value) (H : RegAt p g k W V) (hh : h < k) (e5 : V (h * 6 + 5) = .bool true) :
    Calls Tryd.prog 63 #[.pointer (some ⟨p, 0, none⟩), .int .i64 (h : Nat)] W fun e w' => e = .returned (.bool true) ∧ RegAt p g k w' (putV V h #[.int .i64 0, .int .i64 0, .int .i64 0, .int .i64 0, .int .i64 0, .bool false]) ∧ Keeps g W w' := by
  have HH := Lib.hid H
  obtain ⟨h1, h2, h3, h4, h5, h6⟩ := H
  obtain ⟨c0, f0⟩ := h6 (h * 6) (by omega)
  obtain ⟨c1, f1⟩ := h6 (h * 6 + 1) (by omega)
  obtain ⟨c2, f2⟩ := h6 (h * 6 + 2) (by omega)
  obtain ⟨c3, f3⟩ := h6 (h * 6 + 3) (by omega)
  obtain ⟨c4, f4⟩ := h6 (h * 6 + 4) (by omega)
  obtain ⟨c5, f5⟩ := h6 (h * 6 + 5) (by omega)
  rw [e5] at c5
  have hhi : (h : Int) < k := by omega
  obtain ⟨ws, hws, hreg, hkeep⟩ := reg_store HH.out hh (.int .i64 0) (.int .i64 0) (.int .i64 0) (.int .i64 0) (.int .i64 0) (.bool false)
  have HREG := Lib.hid hreg
  have HKP := Lib.hid hkeep
  clear h6 e5 hreg hkeep
  go_enter Tryd.func63, Tryd.ntmps63
  go_wp2_with fail
  refine (rthere_any p g k h _ V HH.out true (by simp; omega)).mono ?_
  rintro e w' ⟨rfl, rfl⟩
  go_wp2
  go_ret
  exact ⟨rfl, HREG.out, HKP.out⟩



theorem rclone (W : World) (g k : Nat) (V : Nat → Value) (hk : k ≤ 64) (hg : g < W.heap.size) (h : ∀ i, i < 6 * k → W.cell? ⟨g, i, none⟩ = some (V i)) (h1 : ∀ i, (V i).oneCell' = true) :
    Calls Tryd.prog 32 #[.slice (some ⟨g, 0, none⟩) k k] W fun e w' => ∃ g2 cap, e = .returned (.slice (some ⟨g2, 0, none⟩) k cap) ∧ (∀ i, i < 6 * k → w'.cell? ⟨g2, i, none⟩ = some (V i)) ∧ k ≤ cap ∧ Below W.heap.size W w' := by
  obtain ⟨i0, hi0, hz0, hz1, hz2⟩ := info_parts infoCapR
  have HW := Lib.hid h; clear h
  have H1 := Lib.hid h1; clear h1
  have hq := fun W : World => Lib.run_eql_slice_nil (P := Tryd.prog) W 22 37 (some ⟨g, 0, none⟩) k k 0 0 Tryd.underlying22
  simp only [Option.isNone_some] at hq
  go_enter Tryd.func32, Tryd.ntmps32
  go_wp2_with (at_builtin; refine wpList_append_own _ rfl _ _ 22 rfl W.heap.size 37 i0 (.agg #[.int .i64 0, .int .i64 0, .int .i64 0, .int .i64 0, .int .i64 0, .bool false]) 6 48 Tryd.underlying22 hi0 hz0 hz1 hz2 rfl (by decide) _ _ _ rfl (World.ownsRow_lit W #[] 0 (Nat.le_refl _) (by omega) rfl) ⟨g, 0, none⟩ k k ((List.range (k * 6)).map V) rfl ?c1 ?c2 ?c3 ?c4 ?c5 ?c6 ?_)
  case c1 => simp
  case c2 =>
    intro j u hj
    have hlt : j < k * 6 := by
      by_cases h : j < k * 6
      · exact h
      · rw [List.getElem?_eq_none (by simp; omega)] at hj; cases hj
    have hadd : (⟨g, 0, none⟩ : Addr).add j = ⟨g, j, none⟩ := by unfold Addr.add; split <;> simp_all
    rw [hadd, World.cell?_alloc_lt _ _ _ (by exact hg), HW.out j (by omega), ← hj]
    simp [hlt]
  case c3 => intro u hu; obtain ⟨n, _, rfl⟩ := List.mem_map.1 hu; exact H1.out n
  case c4 => unfold maxLen; omega
  case c5 => omega
  case c6 => simp
  intro v' w1 hown hgrow hnil
  have hb1 : Below W.heap.size W w1 := (alc0 W _).grown hgrow (by simp) (fun j hj => by simp [Value.ownBlock] at hj; omega)
  clear hgrow
  have HO := Lib.hid hown; clear hown
  have HNIL := Lib.hid hnil; clear hnil
  go_wp2
  go_ret
  rcases HO.out.2 with ⟨rfl, hz⟩ | ⟨g2, cap', cur, rfl, hg2, hh, hc, hm, _⟩
  · exact (HNIL.out rfl).elim
  · refine ⟨g2, cap', by simp, fun i hi => ?_, by omega, hb1⟩
    rw [HO.out.cellAt i (by omega)]
    have : i < k * 6 := by omega
    simp [this]
theorem rlist (p g k : Nat) (W : World) (V : Nat → Value) (H : RegAt p g k W V) (h1 : ∀ i, (V i).oneCell' = true) :
    Calls Tryd.prog 9 #[.pointer (some ⟨p, 0, none⟩)] W fun e w' => ∃ g2 cap, e = .returned (.slice (some ⟨g2, 0, none⟩) k cap) ∧ (∀ i, i < 6 * k → w'.cell? ⟨g2, i, none⟩ = some (V i)) ∧ k ≤ cap ∧ Below W.heap.size W w' := by
  obtain ⟨q1, q2, q3, q4, q5, q6⟩ := H
  have H6 := Lib.hid q6
  have H1 := Lib.hid h1
  clear q6 h1
  go_enter Tryd.func9, Tryd.ntmps9
  go_wp2_with fail
  refine (rclone _ g k V q4 q2 (fun i hi => (H6.out i hi).1) H1.out).mono ?_
  rintro e w' ⟨g2, cap, rfl, hc, hk, hb⟩
  have HC := Lib.hid hc
  clear hc
  go_wp2
  go_ret
  exact ⟨g2, cap, rfl, HC.out, hk, hb⟩



structure CapV where
  b : Int
  l : Int
  c : Int
  p : Int
  t : Int
  v : Bool
def CapV.vs (x : CapV) : Array Value := #[.int .i64 x.b, .int .i64 x.l, .int .i64 x.c, .int .i64 x.p, .int .i64 x.t, .bool x.v]
def cap0 : CapV := ⟨0, 0, 0, 0, 0, false⟩
def CV (f : Nat → CapV) : Nat → Value := fun i => (f (i / 6)).vs[i % 6]!
def updC (f : Nat → CapV) (h : Nat) (x : CapV) : Nat → CapV := fun k => if k = h then x else f k
theorem CV_zero : zeroV = CV (fun _ => cap0) := rfl
theorem CV_put (f : Nat → CapV) (h : Nat) (x : CapV) : putV (CV f) h x.vs = CV (updC f h x) := by
  funext i
  simp only [putV, CV, updC]
  split <;> rfl
theorem CV_at (f : Nat → CapV) (h j : Nat) (hj : j < 6) : CV f (h * 6 + j) = (f h).vs[j]! := by
  unfold CV
  rw [show (h * 6 + j) / 6 = h by omega, show (h * 6 + j) % 6 = j by omega]
theorem CV_0 (f : Nat → CapV) (h : Nat) : CV f (h * 6) = .int .i64 (f h).b := CV_at f h 0 (by decide)
theorem CV_1 (f : Nat → CapV) (h : Nat) : CV f (h * 6 + 1) = .int .i64 (f h).l := CV_at f h 1 (by decide)
theorem CV_2 (f : Nat → CapV) (h : Nat) : CV f (h * 6 + 2) = .int .i64 (f h).c := CV_at f h 2 (by decide)
theorem CV_3 (f : Nat → CapV) (h : Nat) : CV f (h * 6 + 3) = .int .i64 (f h).p := CV_at f h 3 (by decide)
theorem CV_4 (f : Nat → CapV) (h : Nat) : CV f (h * 6 + 4) = .int .i64 (f h).t := CV_at f h 4 (by decide)
theorem CV_5 (f : Nat → CapV) (h : Nat) : CV f (h * 6 + 5) = .bool (f h).v := CV_at f h 5 (by decide)
theorem CV_one (f : Nat → CapV) (i : Nat) : (CV f i).oneCell' = true := by
  unfold CV CapV.vs
  have hr : i % 6 = 0 ∨ i % 6 = 1 ∨ i % 6 = 2 ∨ i % 6 = 3 ∨ i % 6 = 4 ∨ i % 6 = 5 := by omega
  rcases hr with r | r | r | r | r | r <;> rw [r] <;> rfl
theorem cget (p g k h : Nat) (W : World) (f : Nat → CapV) (H : RegAt p g k W (CV f)) (hh : h < k) :
    Calls Tryd.prog 61 #[.pointer (some ⟨p, 0, none⟩), .int .i64 (h : Nat)] W fun e w' => e = .returned (.tuple #[.agg #[.int .i64 (f h).b, .int .i64 (f h).l, .int .i64 (f h).c, .int .i64 (f h).p, .int .i64 (f h).t, .bool (f h).v], .int .i64 0]) ∧ Below W.heap.size W w' :=
  rget_in p g k h W _ H hh _ _ _ _ _ _ (CV_0 f h) (CV_1 f h) (CV_2 f h) (CV_3 f h) (CV_4 f h) (CV_5 f h)
theorem cput (p g k h : Nat) (x : CapV) (W : World) (f : Nat → CapV) (H : RegAt p g k W (CV f)) (hh : h < k) (hm : capMayB x.b x.l x.c x.p x.t x.v = true) :
    Calls Tryd.prog 22 #[.pointer (some ⟨p, 0, none⟩), .int .i64 (h : Nat), .agg #[.int .i64 x.b, .int .i64 x.l, .int .i64 x.c, .int .i64 x.p, .int .i64 x.t, .bool x.v]] W fun e w' => e = .returned (.int .i64 0) ∧ RegAt p g k w' (CV (updC f h x)) ∧ Keeps g W w' := by
  have h1 := rput_in p g k h x.b x.l x.c x.p x.t x.v W _ H hh hm
  have e := CV_put f h x
  unfold CapV.vs at e
  rw [e] at h1
  exact h1
/-- So many capabilities in a block. -/
def CB (M n : Nat) (W : World) (f : Nat → CapV) : Prop := M < W.heap.size ∧ ∀ i, i < 6 * n → W.cell? ⟨M, i, none⟩ = some (CV f i) ∧ W.frozen? ⟨M, i, none⟩ = false
theorem CB.keep {M n : Nat} {W W' : World} {f : Nat → CapV} (h : CB M n W f) (hs : W.heap.size ≤ W'.heap.size) (e : W'.heap[M]? = W.heap[M]?) : CB M n W' f :=
  ⟨Nat.lt_of_lt_of_le h.1 hs, fun i hi => ⟨(World.cell?_of_block e).trans (h.2 i hi).1, (World.frozen?_of_block e).trans (h.2 i hi).2⟩⟩
theorem CB.below {M n : Nat} {W W' : World} {f : Nat → CapV} (h : CB M n W f) (hb : Below W.heap.size W W') : CB M n W' f := h.keep hb.size (hb.block M h.1)
theorem CB.at_ {M n : Nat} {W : World} {f : Nat → CapV} (h : CB M n W f) (k : Nat) (hk : k < n) :
    W.cell? ⟨M, k * 6, none⟩ = some (.int .i64 (f k).b) ∧ W.cell? ⟨M, k * 6 + 1, none⟩ = some (.int .i64 (f k).l) ∧ W.cell? ⟨M, k * 6 + 2, none⟩ = some (.int .i64 (f k).c) ∧ W.cell? ⟨M, k * 6 + 3, none⟩ = some (.int .i64 (f k).p) ∧ W.cell? ⟨M, k * 6 + 4, none⟩ = some (.int .i64 (f k).t) ∧ W.cell? ⟨M, k * 6 + 5, none⟩ = some (.bool (f k).v) :=
  ⟨by rw [(h.2 _ (by omega)).1, CV_0], by rw [(h.2 _ (by omega)).1, CV_1], by rw [(h.2 _ (by omega)).1, CV_2], by rw [(h.2 _ (by omega)).1, CV_3], by rw [(h.2 _ (by omega)).1, CV_4], by rw [(h.2 _ (by omega)).1, CV_5]⟩
theorem CB.fz {M n : Nat} {W : World} {f : Nat → CapV} (h : CB M n W f) (k : Nat) (hk : k < n) :
    W.frozen? ⟨M, k * 6, none⟩ = false ∧ W.frozen? ⟨M, k * 6 + 1, none⟩ = false ∧ W.frozen? ⟨M, k * 6 + 2, none⟩ = false ∧ W.frozen? ⟨M, k * 6 + 3, none⟩ = false ∧ W.frozen? ⟨M, k * 6 + 4, none⟩ = false ∧ W.frozen? ⟨M, k * 6 + 5, none⟩ = false :=
  ⟨(h.2 _ (by omega)).2, (h.2 _ (by omega)).2, (h.2 _ (by omega)).2, (h.2 _ (by omega)).2, (h.2 _ (by omega)).2, (h.2 _ (by omega)).2⟩
theorem RegAt.cb {p g k : Nat} {W : World} {f : Nat → CapV} (h : RegAt p g k W (CV f)) : CB g k W f := ⟨h.2.1, fun i hi => h.2.2.2.2.2 i hi⟩
theorem CB.store {M n h : Nat} {W : World} {f : Nat → CapV} (H : CB M n W f) (hh : h < n) (x : CapV) :
    ∃ W', (((((W.setCell ⟨M, h * 6, none⟩ (.int .i64 x.b)).setCell ⟨M, h * 6 + 1, none⟩ (.int .i64 x.l)).setCell ⟨M, h * 6 + 2, none⟩ (.int .i64 x.c)).setCell ⟨M, h * 6 + 3, none⟩ (.int .i64 x.p)).setCell ⟨M, h * 6 + 4, none⟩ (.int .i64 x.t)).setCell ⟨M, h * 6 + 5, none⟩ (.bool x.v) = W' ∧ CB M n W' (updC f h x) ∧ Keeps M W W' ∧ W'.heap.size = W.heap.size := by
  have hc : (((((W.setCell ⟨M, h * 6, none⟩ (.int .i64 x.b)).setCell ⟨M, h * 6 + 1, none⟩ (.int .i64 x.l)).setCell ⟨M, h * 6 + 2, none⟩ (.int .i64 x.c)).setCell ⟨M, h * 6 + 3, none⟩ (.int .i64 x.p)).setCell ⟨M, h * 6 + 4, none⟩ (.int .i64 x.t)).setCell ⟨M, h * 6 + 5, none⟩ (.bool x.v) = W.setCells M (h * 6) [.int .i64 x.b, .int .i64 x.l, .int .i64 x.c, .int .i64 x.p, .int .i64 x.t, .bool x.v] := rfl
  have hs : ((((((W.setCell ⟨M, h * 6, none⟩ (.int .i64 x.b)).setCell ⟨M, h * 6 + 1, none⟩ (.int .i64 x.l)).setCell ⟨M, h * 6 + 2, none⟩ (.int .i64 x.c)).setCell ⟨M, h * 6 + 3, none⟩ (.int .i64 x.p)).setCell ⟨M, h * 6 + 4, none⟩ (.int .i64 x.t)).setCell ⟨M, h * 6 + 5, none⟩ (.bool x.v)).heap.size = W.heap.size := by simp only [size_set']
  refine ⟨_, rfl, ⟨by rw [hs]; exact H.1, fun i hi => ⟨?_, ?_⟩⟩, ⟨?_, ?_⟩, hs⟩
  · rw [hc]
    by_cases e : i / 6 = h
    · have hi2 : i = h * 6 + i % 6 := by omega
      have hm : i % 6 < 6 := Nat.mod_lt _ (by decide)
      have hin := World.cell?_setCells_in M [.int .i64 x.b, .int .i64 x.l, .int .i64 x.c, .int .i64 x.p, .int .i64 x.t, .bool x.v] (h * 6) W (fun j hj => by rw [(H.2 (h * 6 + j) (by simp at hj; omega)).1]; rfl) (i % 6) (by simpa using hm)
      rw [← hi2] at hin
      rw [hin]
      unfold CV updC CapV.vs
      rw [if_pos e]
      have hr : i % 6 = 0 ∨ i % 6 = 1 ∨ i % 6 = 2 ∨ i % 6 = 3 ∨ i % 6 = 4 ∨ i % 6 = 5 := by omega
      rcases hr with r | r | r | r | r | r <;> simp [r]
    · rw [World.cell?_setCells_out M _ _ W ⟨M, i, none⟩ (fun _ _ => by simp; omega), (H.2 i hi).1]
      unfold CV updC
      rw [if_neg e]
  · rw [hc, World.frozen?_setCells]
    exact (H.2 i hi).2
  · exact ((((((Below.refl _ _).setCell (Nat.le_refl M) _).setCell (Nat.le_refl M) _).setCell (Nat.le_refl M) _).setCell (Nat.le_refl M) _).setCell (Nat.le_refl M) _).setCell (Nat.le_refl M) _
  · intro i hi hn
    have hx : ∀ (W0 : World) (o : Nat) (v : Value), (W0.setCell ⟨M, o, none⟩ v).heap[i]? = W0.heap[i]? := fun W0 o v => Below.heap_setCell _ _ _ _ (by simpa using hn)
    simp only [hx]



theorem meets_is (x : Bool) (a b c d : Int) (w : World) (h : meetsB a b c d = x) :
    Calls Tryd.prog 66 #[.agg #[.int .i64 a, .int .i64 b], .agg #[.int .i64 c, .int .i64 d]] w fun e w' => e = .returned (.bool x) ∧ Below w.heap.size w w' := by
  subst h
  by_cases h1 : mayB a b = true
  · by_cases h2 : mayB c d = true
    · by_cases h3 : a < c + d
      · exact meets_d a b c d w (Lib.hid h1) (Lib.hid h2) h3
      · exact meets_c a b c d w (Lib.hid h1) (Lib.hid h2) (by simpa using h3)
    · exact meets_b a b c d w (Lib.hid h1) (Lib.hid (by simpa using h2))
  · exact meets_a a b c d w (Lib.hid (by simpa using h1))
/-- Is it for some byte of a stretch? -/
def meetsC (x : CapV) (a b : Int) : Bool := x.v && meetsB x.b x.l a b
set_option maxHeartbeats 1600000 in
theorem cmeets (X : Bool) (b l c p t : Int) (v : Bool) (a n : Int) (w : World) (h : (v && meetsB b l a n) = X) :
    Calls Tryd.prog 42 #[.agg #[.int .i64 b, .int .i64 l, .int .i64 c, .int .i64 p, .int .i64 t, .bool v], .agg #[.int .i64 a, .int .i64 n]] w fun e w' => e = .returned (.bool X) ∧ Below w.heap.size w w' := by
  have HX := Lib.hid h
  clear h
  cases v with
  | false =>
    obtain rfl : false = X := by simpa using HX.out
    go_enter Tryd.func42, Tryd.ntmps42
    go_upto_region 1 with (fail)
    go_quiet (fail)
    go_wp2
    go_ret
    exact ⟨rfl, by first | exact alc (alc0 _ _) _ | exact below_drewN (alc (alc0 _ _) _) _⟩
  | true =>
    have HM : Hid (meetsB b l a n = X) := Lib.hid (by simpa using HX.out)
    clear HX
    go_enter Tryd.func42, Tryd.ntmps42
    go_upto_region 1 with (fail)
    obtain ⟨w1, hw⟩ : ∃ w1, (w.alloc (.cells #[.int .i64 b, .int .i64 l, .int .i64 c, .int .i64 p, .int .i64 t, .bool true] 37)).alloc (.cells #[.int .i64 a, .int .i64 n] 33) = w1 := ⟨_, rfl⟩
    obtain ⟨z, hz⟩ : ∃ z, w.heap.size = z := ⟨_, rfl⟩
    have c0 : w1.cell? ⟨z, 0, none⟩ = some (.int .i64 b) := by rw [← hw, ← hz]; simp
    have c1 : w1.cell? ⟨z, 1, none⟩ = some (.int .i64 l) := by rw [← hw, ← hz]; simp
    have c2 : w1.cell? ⟨z, 2, none⟩ = some (.int .i64 c) := by rw [← hw, ← hz]; simp
    have c3 : w1.cell? ⟨z, 3, none⟩ = some (.int .i64 p) := by rw [← hw, ← hz]; simp
    have c4 : w1.cell? ⟨z, 4, none⟩ = some (.int .i64 t) := by rw [← hw, ← hz]; simp
    have c5 : w1.cell? ⟨z, 5, none⟩ = some (.bool true) := by rw [← hw, ← hz]; simp
    have d0 : w1.cell? ⟨z + 1, 0, none⟩ = some (.int .i64 a) := by rw [← hw, ← hz]; simp
    have d1 : w1.cell? ⟨z + 1, 1, none⟩ = some (.int .i64 n) := by rw [← hw, ← hz]; simp
    have HB : Hid (Below w.heap.size w w1) := Lib.hid (by rw [← hw]; exact alc (alc0 _ _) _)
    have hz1 : z + 1 < w1.heap.size := by rw [← hw, ← hz]; simp
    rw [hw]
    try rw [hz]
    try simp only [hz]
    clear hw
    have HZ := Lib.hid hz
    clear hz
    refine wp_region_held_drew (S := fun w' => (w'.cell? ⟨z, 0, none⟩ = some (.int .i64 b) ∧ w'.cell? ⟨z, 1, none⟩ = some (.int .i64 l) ∧ w'.cell? ⟨z, 2, none⟩ = some (.int .i64 c) ∧ w'.cell? ⟨z, 3, none⟩ = some (.int .i64 p) ∧ w'.cell? ⟨z, 4, none⟩ = some (.int .i64 t) ∧ w'.cell? ⟨z, 5, none⟩ = some (.bool true) ∧ w'.cell? ⟨z + 1, 0, none⟩ = some (.int .i64 a) ∧ w'.cell? ⟨z + 1, 1, none⟩ = some (.int .i64 n)) ∧ Hid (Below w.heap.size w w' ∧ z + 1 < w'.heap.size)) (by kernel_rfl) ?_ (fun hHeld => ?_)
    · exact ⟨⟨c0, c1, c2, c3, c4, c5, d0, d1⟩, Lib.hid ⟨HB.out.drew, hz1⟩⟩
    clear c0 c1 c2 c3 c4 c5 d0 d1 HB hz1
    refine wpAnyH_take (i := 0) (v := ?_) rfl (by kernel_rfl) (by kernel_rfl) (by kernel_rfl) (fun _ _ _ h => h) (Or.inl ⟨by kernel_rfl, ?_⟩) (by assumption) ?_
    rotate_left
    · (intro w hSw; (try dsimp only at hSw); go_simp)
      try (with_reducible rfl)
    rotate_left
    try simp (maxSteps := 4000000) only [Act.put, List.setIfInBounds_toArray, List.set_cons_zero, List.set_cons_succ, List.getElem_toArray, List.getElem_cons_zero, List.getElem_cons_succ]
    refine wpAnyH_take (i := 1) (v := ?_) rfl (by kernel_rfl) (by kernel_rfl) (by kernel_rfl) (fun _ _ _ h => h) (Or.inl ⟨by kernel_rfl, ?_⟩) (by assumption) ?_
    rotate_left
    · (intro w hSw; (try dsimp only at hSw); go_simp)
      try (with_reducible rfl)
    rotate_left
    try simp (maxSteps := 4000000) only [Act.put, List.setIfInBounds_toArray, List.set_cons_zero, List.set_cons_succ, List.getElem_toArray, List.getElem_cons_zero, List.getElem_cons_succ]
    refine wpAnyH_take (i := 2) (v := ?_) rfl (by kernel_rfl) (by kernel_rfl) (by kernel_rfl) (fun _ _ _ h => h) (Or.inl ⟨by kernel_rfl, ?_⟩) (by assumption) ?_
    rotate_left
    · (intro w hSw; (try dsimp only at hSw); go_simp)
      try (with_reducible rfl)
    rotate_left
    try simp (maxSteps := 4000000) only [Act.put, List.setIfInBounds_toArray, List.set_cons_zero, List.set_cons_succ, List.getElem_toArray, List.getElem_cons_zero, List.getElem_cons_succ]
    refine wpAnyH_take (i := 3) (v := ?_) rfl (by kernel_rfl) (by kernel_rfl) (by kernel_rfl) (fun _ _ _ h => h) (Or.inl ⟨by kernel_rfl, ?_⟩) (by assumption) ?_
    rotate_left
    · (intro w hSw; (try dsimp only at hSw); go_simp)
      try (with_reducible rfl)
    rotate_left
    try simp (maxSteps := 4000000) only [Act.put, List.setIfInBounds_toArray, List.set_cons_zero, List.set_cons_succ, List.getElem_toArray, List.getElem_cons_zero, List.getElem_cons_succ]
    refine wpAnyH_take (i := 5) (v := ?_) rfl (by kernel_rfl) (by kernel_rfl) (by kernel_rfl) (fun _ _ _ h => h) (Or.inl ⟨by kernel_rfl, ?_⟩) (by assumption) ?_
    rotate_left
    · (intro w hSw; (try dsimp only at hSw); go_simp)
      try (with_reducible rfl)
    rotate_left
    try simp (maxSteps := 4000000) only [Act.put, List.setIfInBounds_toArray, List.set_cons_zero, List.set_cons_succ, List.getElem_toArray, List.getElem_cons_zero, List.getElem_cons_succ]
    refine wpAnyH_ready (rs := [4]) (by kernel_rfl) (by simp) ?_
    refine AllReadyH.cons rfl (fun K2 hK2 => ?_) AllReadyH.nil
    go_simp
    with_reducible refine Calls.mono (capspan_any _ _ _ _ _ _ _) ?_
    rintro e w2 ⟨rfl, hb⟩
    refine hK2.out _ _ ?_ (fun hHeld2 => ?_)
    · obtain ⟨⟨c0, c1, c2, c3, c4, c5, d0, d1⟩, ⟨hB, hz⟩⟩ := hHeld
      exact ⟨⟨(hb.cell (p := ⟨z, 0, none⟩) (by show z < _; omega)).trans c0, (hb.cell (p := ⟨z, 1, none⟩) (by show z < _; omega)).trans c1, (hb.cell (p := ⟨z, 2, none⟩) (by show z < _; omega)).trans c2, (hb.cell (p := ⟨z, 3, none⟩) (by show z < _; omega)).trans c3, (hb.cell (p := ⟨z, 4, none⟩) (by show z < _; omega)).trans c4, (hb.cell (p := ⟨z, 5, none⟩) (by show z < _; omega)).trans c5, (hb.cell (p := ⟨z + 1, 0, none⟩) (by show z + 1 < _; omega)).trans d0, (hb.cell (p := ⟨z + 1, 1, none⟩) (by show z + 1 < _; omega)).trans d1⟩, Lib.hid ⟨thn hB hb, Nat.lt_of_lt_of_le hz hb.size⟩⟩
    clear hb
    clear hK2 K2 hHeld
    have hHeld := hHeld2
    clear hHeld2
    try simp (maxSteps := 4000000) only [Act.put, List.setIfInBounds_toArray, List.set_cons_zero, List.set_cons_succ]
    refine wpAnyH_ready (rs := [6]) (by kernel_rfl) (by simp) ?_
    refine AllReadyH.cons rfl (fun K2 hK2 => ?_) AllReadyH.nil
    go_simp
    with_reducible refine Calls.mono (meets_is X _ _ _ _ _ HM.out) ?_
    rintro e w3 ⟨rfl, hb⟩
    refine hK2.out _ _ ?_ (fun hHeld2 => ?_)
    · obtain ⟨⟨c0, c1, c2, c3, c4, c5, d0, d1⟩, ⟨hB, hz⟩⟩ := hHeld
      exact ⟨⟨(hb.cell (p := ⟨z, 0, none⟩) (by show z < _; omega)).trans c0, (hb.cell (p := ⟨z, 1, none⟩) (by show z < _; omega)).trans c1, (hb.cell (p := ⟨z, 2, none⟩) (by show z < _; omega)).trans c2, (hb.cell (p := ⟨z, 3, none⟩) (by show z < _; omega)).trans c3, (hb.cell (p := ⟨z, 4, none⟩) (by show z < _; omega)).trans c4, (hb.cell (p := ⟨z, 5, none⟩) (by show z < _; omega)).trans c5, (hb.cell (p := ⟨z + 1, 0, none⟩) (by show z + 1 < _; omega)).trans d0, (hb.cell (p := ⟨z + 1, 1, none⟩) (by show z + 1 < _; omega)).trans d1⟩, Lib.hid ⟨thn hB hb, Nat.lt_of_lt_of_le hz hb.size⟩⟩
    clear hb
    clear hK2 K2 hHeld
    have hHeld := hHeld2
    clear hHeld2
    try simp (maxSteps := 4000000) only [Act.put, List.setIfInBounds_toArray, List.set_cons_zero, List.set_cons_succ]
    refine wpAnyH_take (i := 7) (v := ?_) rfl (by kernel_rfl) (by kernel_rfl) (by kernel_rfl) (fun _ _ _ h => h) (Or.inl ⟨by kernel_rfl, ?_⟩) (by assumption) ?_
    rotate_left
    · (intro w hSw; (try dsimp only at hSw); go_simp)
      try (with_reducible rfl)
    rotate_left
    try simp (maxSteps := 4000000) only [Act.put, List.setIfInBounds_toArray, List.set_cons_zero, List.set_cons_succ, List.getElem_toArray, List.getElem_cons_zero, List.getElem_cons_succ]
    refine wpAnyH_take (i := 8) (v := ?_) rfl (by kernel_rfl) (by kernel_rfl) (by kernel_rfl) (fun _ _ _ h => h) (Or.inl ⟨by kernel_rfl, ?_⟩) (by assumption) ?_
    rotate_left
    · (intro w hSw; (try dsimp only at hSw); go_simp)
      try (with_reducible rfl)
    rotate_left
    try simp (maxSteps := 4000000) only [Act.put, List.setIfInBounds_toArray, List.set_cons_zero, List.set_cons_succ, List.getElem_toArray, List.getElem_cons_zero, List.getElem_cons_succ]
    refine wpAnyH_done (by kernel_rfl) ?_ _
    go_wp2
    go_ret
    exact ⟨rfl, hHeld.2.out.1⟩
/-- How many of the first i are some. -/
def cntC (f : Nat → CapV) (i : Nat) : Nat := ((List.range i).filter fun h => (f h).v).length
theorem cntC_le (f : Nat → CapV) (i : Nat) : cntC f i ≤ i := by
  unfold cntC
  have := List.length_filter_le (fun h => (f h).v) (List.range i)
  simpa using this
theorem cntC_succ (f : Nat → CapV) (i : Nat) : cntC f (i + 1) = cntC f i + if (f i).v then 1 else 0 := by
  unfold cntC
  rw [List.range_succ, List.filter_append, List.length_append]
  by_cases h : (f i).v <;> simp [h]
set_option maxHeartbeats 1600000 in
theorem ccount (p g k : Nat) (W : World) (f : Nat → CapV) (H : RegAt p g k W (CV f)) :
    Calls Tryd.prog 23 #[.pointer (some ⟨p, 0, none⟩)] W fun e w' => e = .returned (.int .i64 (cntC f k : Nat)) ∧ Below W.heap.size W w' := by
  have HH := Lib.hid H
  have hk64 : k ≤ 64 := H.2.2.2.1
  clear H
  go_enter Tryd.func23, Tryd.ntmps23
  go_wp2_with fail
  refine (rlist p g k _ _ HH.out (CV_one f)).mono ?_
  rintro e w1 ⟨g2, cap, rfl, hc, hk, hb⟩
  have HC := Lib.hid hc
  have HB := Lib.hid hb
  clear hc hb
  go_wp2_with fail
  go_loopw [3, 9] (fun v3 v9 wr => ∃ i : Nat, i ≤ k ∧ v9 = .int .i64 i ∧ v3 = .int .i64 (cntC f i : Nat) ∧ Hid (Below w1.heap.size w1 wr)) (fun _ v9 _ => k - (intOf v9).toNat)
  case atStart => exact ⟨0, by omega, rfl, rfl, Lib.hid (Below.refl _ _)⟩
  case round =>
    obtain ⟨i, hi, rfl, rfl, HR⟩ := hrel
    have hle := cntC_le f i
    by_cases hik : i < k
    · have hikI : (i : Int) < (k : Int) := by omega
      have hg2 : g2 < w1.heap.size := World.block_lt_of_cell? w1 _ (HC.out 0 (by omega))
      have rr : ∀ j, j < 6 → wr.cell? ⟨g2, i * 6 + j, none⟩ = some ((f i).vs[j]!) := fun j hj => (HR.out.cell (p := ⟨g2, i * 6 + j, none⟩) hg2).trans ((HC.out (i * 6 + j) (by omega)).trans (by rw [CV_at f i j hj]))
      have c0 : wr.cell? ⟨g2, i * 6, none⟩ = some (.int .i64 (f i).b) := rr 0 (by decide)
      have c1 : wr.cell? ⟨g2, i * 6 + 1, none⟩ = some (.int .i64 (f i).l) := rr 1 (by decide)
      have c2 : wr.cell? ⟨g2, i * 6 + 2, none⟩ = some (.int .i64 (f i).c) := rr 2 (by decide)
      have c3 : wr.cell? ⟨g2, i * 6 + 3, none⟩ = some (.int .i64 (f i).p) := rr 3 (by decide)
      have c4 : wr.cell? ⟨g2, i * 6 + 4, none⟩ = some (.int .i64 (f i).t) := rr 4 (by decide)
      have c5 : wr.cell? ⟨g2, i * 6 + 5, none⟩ = some (.bool (f i).v) := rr 5 (by decide)
      have hg2r : g2 < wr.heap.size := Nat.lt_of_lt_of_le hg2 HR.out.size
      obtain ⟨X, hX⟩ : ∃ X, (f i).v = X := ⟨_, rfl⟩
      rw [hX] at c5
      have HS : Hid (cntC f (i + 1) = cntC f i + if X then 1 else 0) := Lib.hid (by rw [cntC_succ, hX])
      obtain ⟨n, hn⟩ : ∃ n, cntC f i = n := ⟨_, rfl⟩
      rw [hn] at HS hle ⊢
      clear rr hX hn
      cases X with
      | true =>
        go_wp2_with fail
        go_roundw
        case rel => exact ⟨i + 1, by omega, by go_num, by rw [HS.out]; rfl, Lib.hid (alc HR.out _)⟩
        case measure => simp [intOf] <;> omega
      | false =>
        go_wp2_with fail
        go_roundw
        case rel => exact ⟨i + 1, by omega, by go_num, by rw [HS.out]; rfl, Lib.hid (alc HR.out _)⟩
        case measure => simp [intOf] <;> omega
    · obtain rfl : i = k := by omega
      go_wp2
      go_ret
      exact ⟨rfl, thn HB.out HR.out⟩



/-- Those of the first i that are for some byte of a stretch. -/
def meetL (f : Nat → CapV) (a n : Int) (i : Nat) : List Int := List.map (fun h : Nat => (h : Int)) (List.filter (fun h : Nat => meetsC (f h) a n) (List.range i))
theorem meetL_le (f : Nat → CapV) (a n : Int) (i : Nat) : (meetL f a n i).length ≤ i := by
  unfold meetL
  have := List.length_filter_le (fun h => meetsC (f h) a n) (List.range i)
  simpa using this
theorem meetL_succ (f : Nat → CapV) (a n : Int) (i : Nat) : meetL f a n (i + 1) = meetL f a n i ++ if meetsC (f i) a n then [(i : Int)] else [] := by
  unfold meetL
  rw [List.range_succ, List.filter_append, List.map_append]
  by_cases h : meetsC (f i) a n <;> simp [h]
theorem meetL_pre (f : Nat → CapV) (a n : Int) (k : Nat) : ∀ i, i ≤ k → ∃ r, meetL f a n k = meetL f a n i ++ r := by
  induction k with
  | zero => intro i hi; obtain rfl : i = 0 := by omega
            exact ⟨[], by simp⟩
  | succ k ih =>
    intro i hi
    by_cases e : i = k + 1
    · subst e; exact ⟨[], by simp⟩
    · obtain ⟨r, hr⟩ := ih i (by omega)
      rw [meetL_succ, hr]
      exact ⟨r ++ _, by rw [List.append_assoc]⟩
set_option maxRecDepth 100000 in
set_option maxHeartbeats 1600000 in
theorem cmeetsL (p g k : Nat) (a n : Int) (W : World) (f : Nat → CapV) (H : RegAt p g k W (CV f)) :
    Calls Tryd.prog 40 #[.pointer (some ⟨p, 0, none⟩), .agg #[.int .i64 a, .int .i64 n]] W fun e w' => ∃ v b, e = .returned v ∧ ZB b w' v (meetL f a n k) ∧ W.heap.size ≤ b ∧ Below W.heap.size W w' := by
  have HH := Lib.hid H
  have hk64 : k ≤ 64 := H.2.2.2.1
  clear H
  go_enter Tryd.func40, Tryd.ntmps40
  go_wp2_with fail
  refine (rlist p g k _ _ (HH.out.below (alc0 _ _)) (CV_one f)).mono ?_
  rintro e w1 ⟨g2, cap, rfl, hc, hk, hb⟩
  obtain ⟨x3, hx3⟩ : ∃ x3, W.heap.size = x3 := ⟨_, rfl⟩
  have d0 : w1.cell? ⟨x3, 0, none⟩ = some (.int .i64 a) := by rw [← hx3]; exact (hb.cell (p := ⟨W.heap.size, 0, none⟩) (by simp)).trans (by simp)
  have d1 : w1.cell? ⟨x3, 1, none⟩ = some (.int .i64 n) := by rw [← hx3]; exact (hb.cell (p := ⟨W.heap.size, 1, none⟩) (by simp)).trans (by simp)
  have hx31 : x3 < w1.heap.size := World.block_lt_of_cell? w1 _ d0
  have HC := Lib.hid hc
  have HB : Hid (Below W.heap.size W w1) := Lib.hid (thn (alc0 W _) hb)
  have HD := Lib.hid (And.intro d0 d1)
  try rw [hx3]
  try simp only [hx3]
  have HX3 := Lib.hid hx3
  clear hc hb d0 d1 hx3
  go_wp2_with fail
  go_loopw [5, 11] (fun v5 v11 wr => ∃ (i b : Nat), i ≤ k ∧ v11 = .int .i64 i ∧ Hid (ZB b wr v5 (meetL f a n i)) ∧ Hid (w1.heap.size ≤ b ∧ Below w1.heap.size w1 wr)) (fun _ v11 _ => k - (intOf v11).toNat)
  case atStart => exact ⟨0, w1.heap.size, by omega, rfl, Lib.hid ⟨none, 0, 0, rfl, rfl, Nat.le_refl _, by omega, .inl ⟨rfl, rfl, rfl⟩⟩, Lib.hid ⟨Nat.le_refl _, Below.refl _ _⟩⟩
  case round =>
    obtain ⟨i, b, hi, rfl, HZ, HR⟩ := hrel
    obtain ⟨A5, n5, c5', e5, -⟩ := HZ.out
    subst e5
    by_cases hik : i < k
    · have hikI : (i : Int) < (k : Int) := by omega
      have hg2 : g2 < w1.heap.size := World.block_lt_of_cell? w1 _ (HC.out 0 (by omega))
      have rr : ∀ j, j < 6 → wr.cell? ⟨g2, i * 6 + j, none⟩ = some ((f i).vs[j]!) := fun j hj => (HR.out.2.cell (p := ⟨g2, i * 6 + j, none⟩) hg2).trans ((HC.out (i * 6 + j) (by omega)).trans (by rw [CV_at f i j hj]))
      have c0 : wr.cell? ⟨g2, i * 6, none⟩ = some (.int .i64 (f i).b) := rr 0 (by decide)
      have c1 : wr.cell? ⟨g2, i * 6 + 1, none⟩ = some (.int .i64 (f i).l) := rr 1 (by decide)
      have c2 : wr.cell? ⟨g2, i * 6 + 2, none⟩ = some (.int .i64 (f i).c) := rr 2 (by decide)
      have c3 : wr.cell? ⟨g2, i * 6 + 3, none⟩ = some (.int .i64 (f i).p) := rr 3 (by decide)
      have c4 : wr.cell? ⟨g2, i * 6 + 4, none⟩ = some (.int .i64 (f i).t) := rr 4 (by decide)
      have c5 : wr.cell? ⟨g2, i * 6 + 5, none⟩ = some (.bool (f i).v) := rr 5 (by decide)
      have hg2r : g2 < wr.heap.size := Nat.lt_of_lt_of_le hg2 HR.out.2.size
      have e0 : wr.cell? ⟨x3, 0, none⟩ = some (.int .i64 a) := (HR.out.2.cell (p := ⟨x3, 0, none⟩) hx31).trans HD.out.1
      have e1 : wr.cell? ⟨x3, 1, none⟩ = some (.int .i64 n) := (HR.out.2.cell (p := ⟨x3, 1, none⟩) hx31).trans HD.out.2
      have hx3r : x3 < wr.heap.size := Nat.lt_of_lt_of_le hx31 HR.out.2.size
      obtain ⟨X, hX⟩ : ∃ X, meetsC (f i) a n = X := ⟨_, rfl⟩
      have HXX := Lib.hid hX
      have HXM : Hid (((f i).v && meetsB (f i).b (f i).l a n) = X) := Lib.hid hX
      clear rr hX
      go_wp2_with fail
      with_reducible refine Calls.mono (cmeets X _ _ _ _ _ _ _ _ _ HXM.out) ?_
      rintro e w2 ⟨rfl, hb⟩
      have HR2 : Hid (w1.heap.size ≤ b ∧ Below w1.heap.size w1 w2) := Lib.hid ⟨HR.out.1, thn (alc HR.out.2 _) hb⟩
      have HZ2 : Hid (ZB b w2 (.slice A5 n5 c5') (meetL f a n i)) := Lib.hid ((HZ.out.below (alc0 _ _)).below hb)
      have hw1 : w1.heap.size ≤ w2.heap.size := HR2.out.2.size
      have hle := meetL_le f a n i
      have HS : Hid (meetL f a n (i + 1) = meetL f a n i ++ if X then [(i : Int)] else []) := Lib.hid (by rw [meetL_succ, HXX.out])
      clear hb HR HZ c0 c1 c2 c3 c4 c5 e0 e1 HXX HXM
      have hn5 : n5 ≤ 64 := by
        obtain ⟨_, _, _, e, h1, _⟩ := HZ2.out
        injection e with _ e _
        omega
      cases X with
      | true =>
        go_wp2_with (at_builtin; refine app_zb rfl (.tmp 19) (.tmp 21) rfl b _ _ rfl (HZ2.out.below (alc0 _ _)) i w2.heap.size 1 rfl (by simp) (by omega) ?_)
        intro v9 w3 hz3
        obtain ⟨b', hb', hzb, hs3, ho3, hbel3⟩ := hz3
        have HZ3 : Hid (ZB b' w3 v9 (meetL f a n (i + 1))) := Lib.hid (by rw [HS.out]; exact hzb)
        have HR3 : Hid (w1.heap.size ≤ b' ∧ Below w1.heap.size w1 w3) := Lib.hid ⟨hb'.elim (fun h => by rw [h]; exact HR2.out.1) (fun h => by simp at h; omega), (alc HR2.out.2 _).trans (hbel3 _ HR2.out.1 (by simp; omega))⟩
        clear hb' hzb hs3 ho3 hbel3 HZ2 HR2 HS
        go_wp2_with fail
        go_roundw
        case rel => exact ⟨i + 1, b', by omega, by go_num, HZ3, HR3⟩
        case measure => simp [intOf] <;> omega
      | false =>
        have HZ3 : Hid (ZB b w2 (.slice A5 n5 c5') (meetL f a n (i + 1))) := Lib.hid (by rw [HS.out]; simpa using HZ2.out)
        go_wp2_with fail
        go_roundw
        case rel => exact ⟨i + 1, b, by omega, by go_num, HZ3, HR2⟩
        case measure => simp [intOf] <;> omega
    · obtain rfl : i = k := by omega
      go_wp2
      go_ret
      exact ⟨_, b, rfl, HZ.out, by have := HB.out.size; have := HR.out.1; omega, thn HB.out HR.out.2⟩

theorem RegAt.keep {p g k : Nat} {W W' : World} {V : Nat → Value} (h : RegAt p g k W V) (hs : W.heap.size ≤ W'.heap.size) (ep : W'.heap[p]? = W.heap[p]?) (eg : W'.heap[g]? = W.heap[g]?) : RegAt p g k W' V := by
  obtain ⟨h1, h2, h3, h4, h5, h6⟩ := h
  exact ⟨Nat.lt_of_lt_of_le h1 hs, Nat.lt_of_lt_of_le h2 hs, h3, h4, (World.cell?_of_block ep).trans h5, fun i hi => ⟨(World.cell?_of_block eg).trans (h6 i hi).1, (World.frozen?_of_block eg).trans (h6 i hi).2⟩⟩

def NoV (f : Nat → CapV) : Prop := ∀ h, (f h).v = false → f h = cap0
theorem NoV.upd {f : Nat → CapV} (h : NoV f) (i : Nat) (x : CapV) (hx : x.v = false → x = cap0) : NoV (updC f i x) := fun j => by
  unfold updC
  split
  · exact hx
  · exact h j
theorem may_no {x : CapV} (h : capMayB x.b x.l x.c x.p x.t x.v = true) (hv : x.v = false) : x = cap0 := by
  obtain ⟨b, l, c, p, t, v⟩ := x
  obtain rfl : v = false := hv
  simp [capMayB] at h
  simp [cap0, h]
theorem upd_no {f : Nat → CapV} (h : NoV f) (i : Nat) (hv : (f i).v = false) : updC f i cap0 = f := by
  funext j
  unfold updC
  split
  · rename_i e; rw [e, h i hv]
  · rfl

set_option maxHeartbeats 800000 in
theorem rclear_out (p g k : Nat) (h : Int) (W : World) (V : Nat → Value) (H : RegAt p g k W V) (hh : decide (0 ≤ h ∧ h < k) = false) :
    Calls Tryd.prog 63 #[.pointer (some ⟨p, 0, none⟩), .int .i64 h] W fun e w' => e = .returned (.bool false) ∧ W = w' := by
  have HH := Lib.hid H
  have HR := Lib.hid hh
  clear H hh
  go_enter Tryd.func63, Tryd.ntmps63
  go_wp2_with fail
  refine (rthere_any p g k h _ V HH.out false HR.out).mono ?_
  rintro e w' ⟨rfl, rfl⟩
  go_wp2
  go_ret
  exact ⟨rfl, rfl⟩
theorem cclear_yes (p g k h : Nat) (W : World) (f : Nat → CapV) (H : RegAt p g k W (CV f)) (hh : h < k) (e5 : (f h).v = true) :
    Calls Tryd.prog 63 #[.pointer (some ⟨p, 0, none⟩), .int .i64 (h : Nat)] W fun e w' => e = .returned (.bool true) ∧ RegAt p g k w' (CV (updC f h cap0)) ∧ Keeps g W w' := by
  have h1 := rclear_yes p g k h W _ H hh (by rw [CV_5, e5])
  have e := CV_put f h cap0
  rw [show cap0.vs = #[.int .i64 0, .int .i64 0, .int .i64 0, .int .i64 0, .int .i64 0, .bool false] from rfl] at e
  rw [e] at h1
  exact h1

end Go.Proofs.YtljjcomedjdpaaaDoor

