/- Contracts of package shelf: Pages, Take. -/
import Derived.Test.YtjblgamngnnccaaShfP
import Derived.Deep.LoopGhost
namespace Go.Proofs.Ytjblgamngnnccaa
open Go.RowKit
set_option linter.unusedVariables false
set_option linter.unusedSimpArgs false

theorem spages_any (g b : Nat) (k : Int) (ms : List Ar) (W : World) (h : ShB g b W k ms) (hsm : ms.length ≤ 100) (hp : ∀ p ∈ ms, 0 ≤ p.2 ∧ p.2 ≤ 1000) :
    Calls Try.prog 24 #[.pointer (some ⟨g, 0, none⟩)] W fun e w' => e = .returned (.int .i64 (sumP ms)) ∧ Below W.heap.size W w' := by
  have H := Lib.hid h
  clear h
  go_enter Try.func24, Try.ntmps24
  go_wp2_with fail
  refine (slist_any g b k ms _ H.out (by omega)).mono ?_
  rintro e w1 ⟨b1, v1, rfl, hb1, hv1, hbel⟩
  have HP := Lib.hid hp
  clear hp
  have hsh := hv1
  obtain ⟨A, c, rfl, _⟩ := hsh
  have HV := Lib.hid hv1
  have HBl := Lib.hid hbel
  clear hv1 hbel H
  go_wp2_with fail
  go_loopw [3, 9] (fun v3 v9 wr => ∃ i : Nat, i ≤ ms.length ∧ v9 = .int .i64 i ∧ v3 = .int .i64 (sumP (ms.take i)) ∧ Hid (Below w1.heap.size w1 wr)) (fun _ v9 _ => ms.length - (intOf v9).toNat)
  case atStart => exact ⟨0, by omega, rfl, by simp [sumP], Lib.hid (Below.refl _ _)⟩
  case round =>
    obtain ⟨i, hi, rfl, rfl, HW⟩ := hrel
    by_cases hlt : i < ms.length
    · rcases va_open HV.out with ⟨_, rfl⟩ | ⟨off, c', e, h7, h8, h9, h10⟩
      · simp at hlt
      · injection e with e1 e2 e3
        subst e1; subst e3
        obtain ⟨p, hpi⟩ : ∃ p, ms[i]? = some p := ⟨_, List.getElem?_eq_getElem hlt⟩
        obtain ⟨q0, q1⟩ := h10 i p hpi
        have r0 := (HW.out.cell (p := ⟨b1, off + i * 2, none⟩) h7).trans q0
        have r1 := (HW.out.cell (p := ⟨b1, off + i * 2 + 1, none⟩) h7).trans q1
        have hs := sumP_take ms i p hpi
        have hb := sumP_bd (ms.take i) (fun x hx => HP.out x (List.mem_of_mem_take hx))
        have hpb := HP.out p (List.mem_of_getElem? hpi)
        have htl : (ms.take i).length ≤ 100 := by rw [List.length_take]; omega
        obtain ⟨s, hsd⟩ : ∃ s, sumP (ms.take i) = s := ⟨_, rfl⟩
        rw [hsd] at hs hb ⊢
        have HS := Lib.hid hs
        clear h10 q0 q1 hs hsd
        have i1 : (i : Int) < ms.length := by omega
        go_wp2_with fail
        go_round
        case rel => exact ⟨i + 1, by omega, by go_num, by rw [HS.out], Lib.hid (HW.out.alloc HW.out.size _)⟩
        case measure => simp [intOf] <;> omega
    · obtain rfl : i = ms.length := by omega
      go_wp2
      go_ret
      exact ⟨ret_int (by rw [List.take_length]), thn HBl.out HW.out⟩
theorem nspages (W : World) : Calls Try.prog 24 #[.pointer none] W fun e w' => e = .returned (.int .i64 0) ∧ W = w' := by
  go_enter Try.func24, Try.ntmps24
  go_wp2_with fail
  refine (nslist W).mono ?_
  rintro e w1 ⟨rfl, rfl⟩
  go_wp2_with fail
  go_loopw [3, 9] (fun v3 v9 wr => v9 = .int .i64 0 ∧ v3 = .int .i64 0 ∧ W = wr) (fun _ v9 _ => 0)
  case atStart => exact ⟨rfl, rfl, rfl⟩
  case round =>
    obtain ⟨rfl, rfl, rfl⟩ := hrel
    go_wp2
    go_ret
    exact ⟨rfl, rfl⟩
/-- The place of the least that fits, among the first i; -1: none. -/
def best (n : Int) (ms : List Ar) : Nat → Int
  | 0 => -1
  | i + 1 => if n ≤ (ms.getD i (0, 0)).2 ∧ (ms.getD i (0, 0)).2 ≤ 2 * n ∧ (best n ms i < 0 ∨ (ms.getD i (0, 0)).2 < (ms.getD (best n ms i).toNat (0, 0)).2) then (i : Int) else best n ms i
theorem best_bd (n : Int) (ms : List Ar) : ∀ i, best n ms i = -1 ∨ ∃ j : Nat, best n ms i = j ∧ j < i
  | 0 => .inl rfl
  | i + 1 => by
    rw [best]
    split
    · exact .inr ⟨i, rfl, by omega⟩
    · rcases best_bd n ms i with h | ⟨j, h, hj⟩
      · exact .inl h
      · exact .inr ⟨j, h, by omega⟩
/-- The ways of a round: what the next place is, and why. -/
theorem best_ways (n : Int) (ms : List Ar) (i : Nat) (p : Ar) (hp : ms[i]? = some p) (B : Int) (hB : best n ms i = B) :
    (decide (n ≤ p.2) = false ∧ best n ms (i + 1) = B) ∨ (decide (n ≤ p.2) = true ∧ decide (p.2 ≤ 2 * n) = false ∧ best n ms (i + 1) = B) ∨
    (decide (n ≤ p.2) = true ∧ decide (p.2 ≤ 2 * n) = true ∧ B = -1 ∧ best n ms (i + 1) = i) ∨
    ∃ (j : Nat) (q : Ar), B = j ∧ j < i ∧ ms[j]? = some q ∧ decide (n ≤ p.2) = true ∧ decide (p.2 ≤ 2 * n) = true ∧ ((decide (p.2 < q.2) = true ∧ best n ms (i + 1) = i) ∨ (decide (p.2 < q.2) = false ∧ best n ms (i + 1) = B)) := by
  have hil := (List.getElem?_eq_some_iff.1 hp).1
  have hg : ms.getD i (0, 0) = p := by simp [List.getD, hp]
  have hs : best n ms (i + 1) = if n ≤ p.2 ∧ p.2 ≤ 2 * n ∧ (B < 0 ∨ p.2 < (ms.getD B.toNat (0, 0)).2) then (i : Int) else B := by rw [best, hB, hg]
  rw [hs]
  by_cases h1 : n ≤ p.2
  · by_cases h2 : p.2 ≤ 2 * n
    · right; right
      rcases best_bd n ms i with h | ⟨j, h, hj⟩
      · rw [hB] at h
        subst h
        exact .inl ⟨by simpa using h1, by simpa using h2, rfl, by rw [if_pos ⟨h1, h2, .inl (by omega)⟩]⟩
      · rw [hB] at h
        subst h
        have hjl : j < ms.length := by omega
        refine .inr ⟨j, ms[j], rfl, hj, List.getElem?_eq_getElem hjl, by simpa using h1, by simpa using h2, ?_⟩
        have hq : ms.getD ((j : Int)).toNat (0, 0) = ms[j] := by rw [Int.toNat_natCast]; simp [List.getD, List.getElem?_eq_getElem hjl]
        rw [hq]
        by_cases h3 : p.2 < (ms[j]).2
        · exact .inl ⟨by simpa using h3, by rw [if_pos ⟨h1, h2, .inr h3⟩]⟩
        · exact .inr ⟨by simpa using h3, by rw [if_neg (by rintro ⟨_, _, h | h⟩ <;> omega)]⟩
    · right; left
      exact ⟨by simpa using h1, by simpa using h2, by rw [if_neg (fun h => h2 h.2.1)]⟩
  · left
    exact ⟨by simpa using h1, by rw [if_neg (fun h => h1 h.1)]⟩
theorem take_low (v : Value) (n : Int) (W : World) (hn : n < 1) :
    Calls Try.prog 19 #[v, .int .i64 n] W fun e w' => e = .returned (.tuple #[.agg #[.int .i64 0, .int .i64 0], .bool false]) ∧ Below W.heap.size W w' := by
  go_enter Try.func19, Try.ntmps19
  go_wp2
  refine bodyPost_ret (v := .tuple #[.agg #[.int .i64 0, .int .i64 0], .bool false]) (by simp [results, Try.results19, go_sem]) rfl ⟨rfl, alc0 _ _⟩
theorem ntake (W : World) :
    Calls Try.prog 19 #[.pointer none, .int .i64 1] W fun e w' => e = .returned (.tuple #[.agg #[.int .i64 0, .int .i64 0], .bool false]) ∧ Below W.heap.size W w' := by
  go_enter Try.func19, Try.ntmps19
  go_wp2_with fail
  refine (nslist _).mono ?_
  rintro e w1 ⟨rfl, rfl⟩
  go_wp2_with fail
  go_loopw [6, 21] (fun v6 v21 wr => v21 = .int .i64 0 ∧ v6 = .int .i64 (-1) ∧ W.alloc (.cells #[.int .i64 0, .int .i64 0] 50) = wr) (fun _ _ _ => 0)
  case atStart => exact ⟨rfl, rfl, rfl⟩
  case round =>
    obtain ⟨rfl, rfl, rfl⟩ := hrel
    go_wp2
    refine bodyPost_ret (v := .tuple #[.agg #[.int .i64 0, .int .i64 0], .bool false]) (by simp [results, Try.results19, go_sem]) rfl ⟨rfl, alc0 _ _⟩
def TakePost (g b : Nat) (W : World) (k : Int) (ms : List Ar) (n : Int) (e : Ending) (w' : World) : Prop :=
  ∃ b', (b' = b ∨ W.heap.size ≤ b') ∧ Fr g b W w' ∧ ((best n ms ms.length = -1 ∧ ShB g b' w' k ms ∧ e = .returned (.tuple #[.agg #[.int .i64 0, .int .i64 0], .bool false])) ∨
    ∃ (j : Nat) (p : Ar), best n ms ms.length = j ∧ ms[j]? = some p ∧ ShB g b' w' k (ms.eraseIdx j) ∧ e = .returned (.tuple #[.agg #[.int .i64 p.1, .int .i64 p.2], .bool true]))
set_option maxHeartbeats 1600000 in
theorem take_core (g b : Nat) (k : Int) (ms : List Ar) (n : Int) (W : World) (h : ShB g b W k ms) (hn : 1 ≤ n) (hn2 : n ≤ 1000) (hsm : ms.length ≤ 100) (hp : ∀ p ∈ ms, 0 ≤ p.2 ∧ p.2 ≤ 1000) (hbW : b ≠ W.heap.size) :
    Calls Try.prog 19 #[.pointer (some ⟨g, 0, none⟩), .int .i64 n] W (TakePost g b W k ms n) := by
  have H := Lib.hid h
  have h1 : g < W.heap.size := h.1
  have hbl : 0 < ms.length → b < W.heap.size := fun hm => h.blt hm
  have HBL := Lib.hid hbl
  clear h hbl
  have hbel := alc0 W (.cells #[.int .i64 0, .int .i64 0] 50)
  have HP := Lib.hid hp
  clear hp
  go_enter Try.func19, Try.ntmps19
  go_wp2_with fail
  refine (slist_any g b k ms _ (H.out.below hbel) (by omega)).mono ?_
  rintro e w1 ⟨b1, v1, rfl, hb1, hv1, hbel1⟩
  have hsh := hv1
  obtain ⟨A, c, rfl, _⟩ := hsh
  have HV := Lib.hid hv1
  obtain ⟨N, hN⟩ : ∃ N, W.heap.size = N := ⟨_, rfl⟩
  have hNs : N < (W.alloc (.cells #[.int .i64 0, .int .i64 0] 50)).heap.size := by simp; omega
  have k0 : w1.heap[N]? = (W.alloc (.cells #[.int .i64 0, .int .i64 0] 50)).heap[N]? := hbel1.block N hNs
  have c0 : w1.cell? ⟨N, 0, none⟩ = some (.int .i64 0) := (World.cell?_of_block k0).trans (by rw [← hN]; simp)
  have c1 : w1.cell? ⟨N, 1, none⟩ = some (.int .i64 0) := (World.cell?_of_block k0).trans (by rw [← hN]; simp)
  have fz : ∀ o, w1.frozen? ⟨N, o, none⟩ = false := fun o => (World.frozen?_of_block k0).trans (by rw [← hN]; simp)
  have hNw : N < w1.heap.size := Nat.lt_of_lt_of_le hNs hbel1.size
  have HB1 : Hid (Below W.heap.size W w1) := Lib.hid (thn hbel hbel1)
  have HS1 : Hid (ShB g b w1 k ms) := Lib.hid ((H.out.below hbel).below hbel1)
  rw [hN]
  clear hv1 hbel hbel1 H hNs k0
  go_wp2_with fail
  go_loopw [6, 21] (fun v6 v21 wr => ∃ i : Nat, i ≤ ms.length ∧ v21 = .int .i64 i ∧ v6 = .int .i64 (best n ms i) ∧ Hid (Below w1.heap.size w1 wr)) (fun _ v21 _ => ms.length - (intOf v21).toNat)
  case atStart => exact ⟨0, by omega, rfl, rfl, Lib.hid (Below.refl _ _)⟩
  case round =>
    obtain ⟨i, hi, rfl, rfl, HW⟩ := hrel
    by_cases hlt : i < ms.length
    · rcases va_open HV.out with ⟨_, rfl⟩ | ⟨off, c', e, h7, h8, h9, h10⟩
      · simp at hlt
      · injection e with e1 e2 e3
        subst e1; subst e3
        obtain ⟨p, hpi⟩ : ∃ p, ms[i]? = some p := ⟨_, List.getElem?_eq_getElem hlt⟩
        have HC : Hid (∀ i p, ms[i]? = some p → wr.cell? ⟨b1, off + i * 2, none⟩ = some (.int .i64 p.1) ∧ wr.cell? ⟨b1, off + i * 2 + 1, none⟩ = some (.int .i64 p.2)) := Lib.hid fun i p hp => ⟨(HW.out.cell (p := ⟨b1, off + i * 2, none⟩) h7).trans (h10 i p hp).1, (HW.out.cell (p := ⟨b1, off + i * 2 + 1, none⟩) h7).trans (h10 i p hp).2⟩
        obtain ⟨r0, r1⟩ := HC.out i p hpi
        have hpb := HP.out p (List.mem_of_getElem? hpi)
        obtain ⟨B, hB⟩ : ∃ B, best n ms i = B := ⟨_, rfl⟩
        have hbw : b1 < wr.heap.size := Nat.lt_of_lt_of_le h7 HW.out.size
        have hways := best_ways n ms i p hpi B hB
        rw [hB]
        clear h10 hB hpi
        have i1 : (i : Int) < ms.length := by omega
        have HWn : ∀ q, Hid (Below w1.heap.size w1 ((wr.alloc (.cells #[.int .i64 p.1, .int .i64 p.2] 50)).drewN q)) := fun q => Lib.hid (below_drewN (HW.out.alloc HW.out.size _) q)
        rcases hways with ⟨d1, hn1⟩ | ⟨d1, d2, hn1⟩ | ⟨d1, d2, rfl, hn1⟩ | ⟨j, q, rfl, hj, hq, d1, d2, ⟨d3, hn1⟩ | ⟨d3, hn1⟩⟩
        · have HN := Lib.hid hn1
          clear hn1
          go_wp2_with fail
          go_quiet (fail)
          go_wp2_with fail
          go_roundw
          case rel => exact ⟨i + 1, by omega, by go_num, by rw [HN.out], HWn _⟩
          case measure => simp [intOf] <;> omega
        · have HN := Lib.hid hn1
          clear hn1
          go_wp2_with fail
          go_quiet (fail)
          go_wp2_with fail
          go_roundw
          case rel => exact ⟨i + 1, by omega, by go_num, by rw [HN.out], HWn _⟩
          case measure => simp [intOf] <;> omega
        · have HN := Lib.hid hn1
          clear hn1
          go_wp2_with fail
          go_quiet (fail)
          go_wp2_with fail
          go_roundw
          case rel => exact ⟨i + 1, by omega, by go_num, by rw [HN.out], HWn _⟩
          case measure => simp [intOf] <;> omega
        all_goals
          obtain ⟨s0, s1⟩ := HC.out j q hq
          have j1 : (j : Int) < ms.length := by omega
          have j0 : decide ((j : Int) < 0) = false := by simp
          have HN := Lib.hid hn1
          clear hn1
          go_wp2_with fail
          go_quiet (fail)
          go_wp2_with fail
          go_roundw
          case rel => exact ⟨i + 1, by omega, by go_num, by rw [HN.out], HWn _⟩
          case measure => simp [intOf] <;> omega
    · obtain rfl : i = ms.length := by omega
      have k1 : wr.heap[N]? = w1.heap[N]? := HW.out.block N hNw
      have c2 : wr.cell? ⟨N, 0, none⟩ = some (.int .i64 0) := (World.cell?_of_block k1).trans c0
      have c3 : wr.cell? ⟨N, 1, none⟩ = some (.int .i64 0) := (World.cell?_of_block k1).trans c1
      have fz2 : ∀ o, wr.frozen? ⟨N, o, none⟩ = false := fun o => (World.frozen?_of_block k1).trans (fz o)
      have HBr : Hid (Below W.heap.size W wr) := Lib.hid (thn HB1.out (HW.out.mono (by have := HB1.out.size; omega)))
      have HSr : Hid (ShB g b wr k ms) := Lib.hid (HS1.out.below HW.out)
      clear k1 c0 c1 fz
      rcases best_bd n ms ms.length with hb | ⟨j, hb, hj⟩
      · rw [hb]
        have HBN := Lib.hid hb
        clear hb
        go_wp2
        refine bodyPost_ret (v := .tuple #[.agg #[.int .i64 0, .int .i64 0], .bool false]) (by simp [results, Try.results19, go_sem, c2, c3]) rfl ⟨b, .inl rfl, ?_, .inl ⟨HBN.out, ?_, rfl⟩⟩
        · exact ((Fr.of_below HBr.out).far (by omega) 0 _).far (by omega) 1 _
        · exact (HSr.out.far (by omega) (by omega)).far (by omega) (by omega)
      · rw [hb]
        have HBN := Lib.hid hb
        clear hb
        have j0 : ¬ (j : Int) < 0 := by omega
        obtain ⟨p, hpj⟩ : ∃ p, ms[j]? = some p := ⟨_, List.getElem?_eq_getElem hj⟩
        go_wp2_with fail
        refine (sdrop_any g b j k ms p wr HSr.out hpj (by omega)).mono ?_
        rintro e w5 ⟨rfl, hs5, hf5⟩
        have hbN : b < N := by have := HBL.out (by omega); omega
        have k5 : w5.heap[N]? = wr.heap[N]? := hf5.2.1 N (by have := HW.out.size; omega) (by omega) (by omega)
        have c4 := (World.cell?_of_block k5 (a := ⟨N, 0, none⟩)).trans c2
        have c5 := (World.cell?_of_block k5 (a := ⟨N, 1, none⟩)).trans c3
        have fz5 : ∀ o, w5.frozen? ⟨N, o, none⟩ = false := fun o => (World.frozen?_of_block k5 (a := ⟨N, o, none⟩)).trans (fz2 o)
        have HF5 := Lib.hid ((Fr.of_below HBr.out).trans hf5 (.inl rfl))
        have HS5 := Lib.hid hs5
        clear hf5 hs5 k5 c2 c3 fz2
        go_wp2
        refine bodyPost_ret (v := .tuple #[.agg #[.int .i64 p.1, .int .i64 p.2], .bool true]) (by simp [results, Try.results19, go_sem, c4, c5]) rfl ⟨b, .inl rfl, ?_, .inr ⟨j, p, HBN.out, hpj, ?_, rfl⟩⟩
        · exact (HF5.out.far (by omega) 0 _).far (by omega) 1 _
        · exact (HS5.out.far (by omega) (by omega)).far (by omega) (by omega)
theorem take_any (g b : Nat) (k : Int) (ms : List Ar) (n : Int) (W : World) (h : ShB g b W k ms) (hn : 1 ≤ n) (hn2 : n ≤ 1000) (hsm : ms.length ≤ 100) (hp : ∀ p ∈ ms, 0 ≤ p.2 ∧ p.2 ≤ 1000) :
    Calls Try.prog 19 #[.pointer (some ⟨g, 0, none⟩), .int .i64 n] W (TakePost g b W k ms n) := by
  by_cases hb : b < W.heap.size
  · exact take_core g b k ms n W h hn hn2 hsm hp (by omega)
  · have h0 := h
    obtain ⟨h1, h2, h3, h4, v, h5, h6⟩ := h
    rcases va_open h6 with ⟨rfl, rfl⟩ | ⟨off, c, rfl, h7, _⟩
    · refine (take_core g (W.heap.size + 2) k [] n W (h0.renil h5 (by omega)) hn hn2 hsm hp (by omega)).mono ?_
      rintro e w' ⟨b', hb', ⟨f1, f2, f3⟩, hr⟩
      refine ⟨b', .inr (by omega), ⟨f1, fun i hi hg _ => f2 i hi hg (by omega), fun L hg _ hL => f3 L hg (by omega) hL⟩, hr⟩
    · omega
theorem nfirst (W : World) : Calls Try.prog 20 #[.pointer none] W fun e w' => e = .returned (.tuple #[.agg #[.int .i64 0, .int .i64 0], .bool false]) ∧ Below W.heap.size W w' := by
  go_enter Try.func20, Try.ntmps20
  go_wp2_with fail
  refine (nslen _).mono ?_
  rintro e w1 ⟨rfl, rfl⟩
  go_wp2
  refine bodyPost_ret (v := .tuple #[.agg #[.int .i64 0, .int .i64 0], .bool false]) (by simp [results, Try.results20, go_sem]) rfl ⟨rfl, alc0 _ _⟩
set_option maxRecDepth 100000 in
/-- The statement's awake. -/
theorem awakeShelf (W : World) : Calls Try.prog 25 #[] W fun e w' => e = .returned (.bool true) ∧ Below W.heap.size W w' := by
  go_enter Try.func25, Try.ntmps25
  go_wp2_with fail
  refine (snew_any 2 2 _ (by decide)).mono ?_
  rintro e w1 ⟨rfl, hS, hb1, hsz1⟩
  obtain ⟨g, hg⟩ : ∃ g, W.heap.size = g := ⟨_, rfl⟩
  have H1 := Lib.hid (hS (g + 1) (by omega))
  clear hS
  rw [hg] at H1 ⊢
  have F0 : Hid (Fr g (g + 1) W w1) := Lib.hid (Fr.of_below hb1)
  go_wp2_with fail
  refine (sput_any g (g + 1) 2 [] (1, 4) _ H1.out (by decide) (by decide) (by simp)).mono ?_
  rintro e w2 ⟨b2, hb2, hf2, ⟨_, hs2, rfl⟩ | ⟨h, _⟩⟩
  · have H2 := Lib.hid hs2
    have F2 := Lib.hid (F0.out.trans hf2 (.inl rfl))
    clear hs2 hf2
    go_wp2_with fail
    refine (sput_any g b2 2 [(1, 4)] (9, 3) _ H2.out (by decide) (by decide) (by simp)).mono ?_
    rintro e w3 ⟨b3, hb3, hf3, ⟨_, hs3, rfl⟩ | ⟨h, _⟩⟩
    · have H3 := Lib.hid hs3
      have hbb2 : b2 = g + 1 ∨ W.heap.size ≤ b2 := by omega
      have F3 := Lib.hid (F2.out.trans hf3 hbb2)
      clear hs3 hf3
      go_wp2_with fail
      refine (take_any g b3 2 [(1, 4), (9, 3)] 2 _ H3.out (by decide) (by decide) (by simp) (by simp)).mono ?_
      rintro e w4 ⟨b4, hb4, hf4, ⟨h, _⟩ | ⟨j, p, hj, hp, hs4, rfl⟩⟩
      · exact absurd h (by decide)
      · have hbest : best 2 [(1, 4), (9, 3)] ([(1, 4), (9, 3)] : List Ar).length = 1 := by decide
        rw [hbest] at hj
        obtain rfl : j = 1 := by omega
        obtain rfl : p = (9, 3) := (Option.some.inj hp).symm
        have hbb3 : b3 = g + 1 ∨ W.heap.size ≤ b3 := by have := H1.out.1; have := F2.out.1; omega
        have F4 := Lib.hid (F3.out.trans hf4 hbb3)
        have H4 : Hid (ShB g b4 w4 2 [(1, 4)]) := Lib.hid hs4
        clear hs4 hf4 hj hp hbest hbb3 hbb2 hb1 hsz1
        go_wp2_with fail
        refine (slen_any g b4 2 [(1, 4)] _ (H4.out.below (alc0 _ _))).mono ?_
        rintro e w5 ⟨rfl, rfl⟩
        go_wp2_with fail
        refine (spages_any g b4 2 [(1, 4)] _ (H4.out.below (alc0 _ _)) (by simp) (by simp)).mono ?_
        rintro e w6 ⟨rfl, hb6⟩
        go_wp2
        go_ret
        exact ⟨rfl, thn (alc (F4.out.2.2 W.heap.size (by omega) (by omega) (Nat.le_refl _)) _) hb6⟩
    · exact absurd h (by decide)
  · exact absurd h (by decide)
end Go.Proofs.Ytjblgamngnnccaa
