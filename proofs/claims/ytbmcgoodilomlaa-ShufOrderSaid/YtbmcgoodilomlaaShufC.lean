/- The walk of ShufOrder. -/
import Derived.Test.YtbmcgoodilomlaaShufB
import Derived.Deep.QuietTactic
import Derived.BigQuiet
namespace Go.Proofs.Ytbmcgoodilomlaa
open Go.RowKit
set_option linter.unusedVariables false
set_option linter.unusedSimpArgs false

theorem row_lsb {w : World} {a : Option Addr} {len cap : Nat} {zs : List Int} (h : IsRow .i64 w a len cap zs) (m : Nat) (hm : m ≤ len) : ∃ bl, (m = 0 ∨ bl < w.heap.size) ∧ LsB bl w a m cap (zs.take m) := by
  rcases h with ⟨rfl, rfl, rfl, rfl⟩ | ⟨x, rfl, hl, hmx, hz, hc, hw⟩
  · obtain rfl : m = 0 := by omega
    exact ⟨0, .inl rfl, by simp, Nat.le_refl _, by omega, fun _ => ⟨rfl, rfl⟩, .inl rfl⟩
  · by_cases h0 : m = 0
    · subst h0
      exact ⟨0, .inl rfl, by simp, by omega, by unfold maxLen at hmx; omega, fun h => (by cases h), .inl rfl⟩
    · obtain ⟨b, off, rfl, hc2⟩ := ints_at hc (by omega)
      have hb : b < w.heap.size := World.block_lt_of_cell? w _ (hc2 0 (by omega))
      refine ⟨b, .inr hb, by simp; omega, by omega, by unfold maxLen at hmx; omega, fun h => (by cases h), .inr ⟨off, rfl, hb, fun i hi => ?_⟩⟩
      rw [hc2 i (by omega)]
      simp [List.getD, hi]
theorem row_bd {w : World} {a : Option Addr} {len cap : Nat} {zs : List Int} (h : IsRow .i64 w a len cap zs) : ∀ x ∈ zs, -9223372036854775808 ≤ x ∧ x ≤ 9223372036854775807 := by
  rcases h with ⟨_, _, _, rfl⟩ | ⟨_, _, _, _, _, _, hw⟩
  · simp
  · exact fun x hx => bounds_i64 (hw x hx)
theorem row_cap {w : World} {a : Option Addr} {len cap : Nat} {zs : List Int} (h : IsRow .i64 w a len cap zs) : (a = none → len = 0 ∧ cap = 0) ∧ len ≤ cap ∧ cap ≤ 9223372036854775807 := by
  rcases h with ⟨_, rfl, rfl, _⟩ | ⟨x, rfl, h1, h2, _⟩
  · exact ⟨fun _ => ⟨rfl, rfl⟩, by omega, by omega⟩
  · exact ⟨fun h => (by cases h), h1, by unfold maxLen at h2; omega⟩
/-- What the law's loop keeps: its row (at bw), its draws (at q, their list in bl). -/
def SN (B0 bw q : Nat) (w wr : World) (A7 : Option Addr) (m c7 : Nat) (X Z : List Int) (K : Int) (bl : Nat) (A : Option Addr) (n c : Nat) : Prop :=
  SlW bw wr A7 m c7 X ∧ LsB bl wr A n c Z ∧ (wr.cell? ⟨q, 0, none⟩ = some (.slice A n c) ∧ wr.cell? ⟨q, 1, none⟩ = some (.int .u64 K) ∧ wr.frozen? ⟨q, 0, none⟩ = false ∧ wr.frozen? ⟨q, 1, none⟩ = false ∧ q < wr.heap.size) ∧
  (bw ≠ q ∧ (n = 0 ∨ (bl ≠ bw ∧ bl ≠ q))) ∧ (B0 ≤ bw ∧ B0 ≤ q ∧ B0 ≤ wr.heap.size) ∧ Below B0 w wr ∧ ∀ x ∈ Z, -9223372036854775808 ≤ x ∧ x ≤ 9223372036854775807
theorem SN.next {B0 bw q : Nat} {w wr w9 : World} {A7 : Option Addr} {m c7 : Nat} {X Z : List Int} {K K' : Int} {bl : Nat} {A A' : Option Addr} {n c n' c' : Nat} (h : SN B0 bw q w wr A7 m c7 X Z K bl A n c) (hb : Below wr.heap.size wr w9) (hl : LsB bl w9 A' n' c' Z.tail) :
    SN B0 bw q w ((w9.setCell ⟨q, 0, none⟩ (.slice A' n' c')).setCell ⟨q, 1, none⟩ (.int .u64 K')) A7 m c7 X Z.tail K' bl A' n' c' := by
  obtain ⟨h1, h2, ⟨c0, c1, f0, f1, hq⟩, ⟨s1, s2⟩, ⟨t1, t2, t3⟩, h6, h7⟩ := h
  have n0 : n = Z.length := h2.1.symm
  have n1 : n' = Z.tail.length := hl.1.symm
  have n2 : Z.tail.length ≤ Z.length := by simp
  have hs := hb.size
  obtain ⟨q0, q1⟩ := q_store (v0 := .slice A' n' c') (v1 := .int .u64 K') ((hb.cell (p := ⟨q, 0, none⟩) hq).trans c0) ((hb.cell (p := ⟨q, 1, none⟩) hq).trans c1)
  refine ⟨(h1.below hb).keep (by simp only [size_set]; exact Nat.le_refl _) (fun _ _ => by rw [heap_other _ q 1 _ bw s1, heap_other _ q 0 _ bw s1]), hl.keep (by simp only [size_set]; exact Nat.le_refl _) (fun hn _ => ?_), ⟨q0, q1, ?_, ?_, by simp only [size_set]; omega⟩, ⟨s1, ?_⟩, ⟨t1, t2, by simp only [size_set]; omega⟩, ((h6.trans (hb.mono t3)).setCell t2 _).setCell t2 _, fun x hx => h7 x (List.mem_of_mem_tail hx)⟩
  · have : bl ≠ q := s2.elim (fun h => by omega) (fun h => h.2)
    rw [heap_other _ q 1 _ bl this, heap_other _ q 0 _ bl this]
  · simpa using (hb.frozen (p := ⟨q, 0, none⟩) hq).trans f0
  · simpa using (hb.frozen (p := ⟨q, 1, none⟩) hq).trans f1
  · rcases s2 with h | h
    · exact .inl (by omega)
    · exact .inr h
theorem SN.chg {B0 bw q : Nat} {w wr : World} {A7 : Option Addr} {m c7 : Nat} {X Z : List Int} {K : Int} {bl : Nat} {A : Option Addr} {n c i k : Nat} (h : SN B0 bw q w wr A7 m c7 X Z K bl A n c) (hi : i < m) (hk : k < m) :
    SN B0 bw q w ((wr.setCell ⟨bw, i, none⟩ (.int .i64 (X.getD k 0))).setCell ⟨bw, k, none⟩ (.int .i64 (X.getD i 0))).drew A7 m c7 (swp X i k) Z K bl A n c := by
  obtain ⟨⟨g1, g2, g3, h1⟩, h2, ⟨c0, c1, f0, f1, hq⟩, ⟨s1, s2⟩, ⟨t1, t2, t3⟩, h6, h7⟩ := h
  have ho : ∀ j, j ≠ bw → ((wr.setCell ⟨bw, i, none⟩ (.int .i64 (X.getD k 0))).setCell ⟨bw, k, none⟩ (.int .i64 (X.getD i 0))).heap[j]? = wr.heap[j]? := fun j hj => by rw [heap_other _ bw k _ j hj, heap_other _ bw i _ j hj]
  have hsz : ((wr.setCell ⟨bw, i, none⟩ (.int .i64 (X.getD k 0))).setCell ⟨bw, k, none⟩ (.int .i64 (X.getD i 0))).heap.size = wr.heap.size := by simp only [size_set]
  have eq := ho q (Ne.symm s1)
  have hS : SlW bw ((wr.setCell ⟨bw, i, none⟩ (.int .i64 (X.getD k 0))).setCell ⟨bw, k, none⟩ (.int .i64 (X.getD i 0))) A7 m c7 (swp X i k) := by
    refine ⟨by rw [swp_len]; exact g1, g2, g3, ?_⟩
    rcases h1 with h1 | ⟨e, hr⟩
    · exact .inl h1
    · exact .inr ⟨e, hr.swp hi hk⟩
  have hL : LsB bl ((wr.setCell ⟨bw, i, none⟩ (.int .i64 (X.getD k 0))).setCell ⟨bw, k, none⟩ (.int .i64 (X.getD i 0))) A n c Z := h2.keep (by omega) (fun hn _ => ho bl (s2.elim (fun h => absurd h hn) (fun h => h.1)))
  exact ⟨hS, hL, ⟨(World.cell?_of_block eq).trans c0, (World.cell?_of_block eq).trans c1, (World.frozen?_of_block eq).trans f0, (World.frozen?_of_block eq).trans f1, by show q < ((wr.setCell _ _).setCell _ _).heap.size; omega⟩, ⟨s1, s2⟩, ⟨t1, t2, by show B0 ≤ ((wr.setCell _ _).setCell _ _).heap.size; omega⟩, ((h6.setCell t1 _).setCell t1 _).drew, h7⟩
set_option maxRecDepth 100000 in
set_option maxHeartbeats 3200000 in
theorem walkShufOrder (a0 : Option Addr) (len0 cap0 : Nat) (z0 : List Int) (a1 : Option Addr) (len1 cap1 : Nat) (z1 : List Int) (w : World) (w0 : IsRow .i64 w a0 len0 cap0 z0) (w1 : IsRow .i64 w a1 len1 cap1 z1) :
    Calls Try.prog 5 #[.slice a0 len0 cap0, .slice a1 len1 cap1] w fun e w' => e = .returned (.bool true) ∧ Below w.heap.size w w' := by
  obtain ⟨m, hm⟩ : ∃ m : Nat, min len0 20 = m := ⟨_, rfl⟩
  obtain ⟨md, hmd⟩ : ∃ md : Nat, min len1 30 = md := ⟨_, rfl⟩
  have hm1 : m ≤ len0 ∧ m ≤ 20 := by omega
  have hd1 : md ≤ len1 ∧ md ≤ 30 := by omega
  obtain ⟨hm1, hm2⟩ := hm1
  obtain ⟨hd1, hd2⟩ := hd1
  have hmI : min (len0 : Int) 20 = (m : Int) := by omega
  have hdI : min (len1 : Int) 30 = (md : Int) := by omega
  obtain ⟨bl0, hbl0, hl0⟩ := row_lsb w0 m hm1
  obtain ⟨bl1, hbl1, hl1⟩ := row_lsb w1 md hd1
  have hbd1 : ∀ x ∈ z1.take md, -9223372036854775808 ≤ x ∧ x ≤ 9223372036854775807 := fun x hx => row_bd w1 x (List.mem_of_mem_take hx)
  obtain ⟨hnil0, hc01, hc02⟩ := row_cap w0
  obtain ⟨hnil1, hc11, hc12⟩ := row_cap w1
  generalize z0.take m = X0 at *
  generalize z1.take md = Z0 at *
  have HBD : Hid (∀ x ∈ Z0, -9223372036854775808 ≤ x ∧ x ≤ 9223372036854775807) := Lib.hid hbd1
  have HL0 := Lib.hid hl0
  have HL1 := Lib.hid hl1
  have HNIL := Lib.hid (And.intro hnil0 hnil1)
  obtain ⟨B0, hB0⟩ : ∃ B0, w.heap.size = B0 := ⟨_, rfl⟩
  have hblB : md = 0 ∨ bl1 < B0 := by omega
  have HB0 := Lib.hid hB0
  clear w0 w1 hm hmd hl0 hl1 hbd1 hnil0 hnil1 hbl0 hbl1 hB0
  go_enter Try.func5, Try.ntmps5
  go_upto_region 1 with (fail)
  go_cut [5, 6] (fun v5 v6 wx => v5 = .slice a0 m cap0 ∧ v6 = .slice a1 md cap1 ∧ ∃ qn, w.drewN qn = wx)
  case first =>
    cases a0 with
    | none =>
      obtain ⟨rfl, rfl⟩ := HNIL.out.1 rfl
      obtain rfl : m = 0 := by omega
      cases a1 with
      | none =>
        obtain ⟨rfl, rfl⟩ := HNIL.out.2 rfl
        obtain rfl : md = 0 := by omega
        go_quiet (fail)
        go_wp2_with fail
        go_meet
        exact ⟨rfl, rfl, _, rfl⟩
      | some ad1 =>
        go_quiet (fail)
        go_wp2_with fail
        go_meet
        exact ⟨rfl, rfl, _, rfl⟩
    | some ad =>
      cases a1 with
      | none =>
        obtain ⟨rfl, rfl⟩ := HNIL.out.2 rfl
        obtain rfl : md = 0 := by omega
        go_quiet (fail)
        go_wp2_with fail
        go_meet
        exact ⟨rfl, rfl, _, rfl⟩
      | some ad1 =>
        go_quiet (fail)
        go_wp2_with fail
        go_meet
        exact ⟨rfl, rfl, _, rfl⟩
  case rest =>
    obtain ⟨rfl, rfl, qn, hqn⟩ := hcut
    have HBq : Hid (Below B0 w wc) := Lib.hid (by rw [← hqn]; exact below_drewN (Below.refl _ _) qn)
    have hsq : wc.heap.size = B0 := by rw [← hqn]; exact HB0.out
    have HLa := Lib.hid (HL0.out.below (by rw [HB0.out]; exact HBq.out))
    have HLd := Lib.hid (HL1.out.below (by rw [HB0.out]; exact HBq.out))
    have HSQ := Lib.hid hsq
    have HINT : Hid (∀ W, Below B0 w W → Ints .i64 W a0 m X0 ∧ Ints .i64 W a1 md Z0) := Lib.hid (fun W h => ⟨(HL0.out.below (by rw [HB0.out]; exact h)).ints, (HL1.out.below (by rw [HB0.out]; exact h)).ints⟩)
    clear hqn hsq HL0 HL1
    have hmade : (wc.alloc (.cells #[] 3)).ownsRow wc.heap.size 3 1 (.slice (some ⟨wc.heap.size, 0, none⟩) 0 0) 0 (([] : List Int).map (Value.int .i64)) := World.ownsRow_made (e := 3) (size := 1) wc #[] 0 (Nat.le_refl _) (by unfold maxLen; omega) (by simp)
    go_wp2_with (at_builtin; refine app_ints rfl (.tmp 23) (.tmp 24) rfl wc.heap.size (.slice (some ⟨wc.heap.size, 0, none⟩) 0 0) 0 [] rfl hmade a0 m cap0 X0 rfl (HLa.out.below (alc0 _ _)).ints (fun h => (HNIL.out.1 h).2) (by omega) (by simp) ?_)
    intro v1 w1 hown hgr
    have hb1 : Below wc.heap.size wc w1 := (alc0 wc _).grown hgr (by simp) (fun j hj => (hmade.lt j hj).1)
    have hown : w1.ownsRow wc.heap.size 3 1 v1 m (X0.map (Value.int .i64)) := by simpa using hown
    obtain ⟨bw, hbw, hrb⟩ := rowB_of HLa.out.1 hown
    obtain ⟨A7, c7, rfl, hs7⟩ := slW_of hrb
    obtain ⟨q, hq⟩ : ∃ q, w1.heap.size = q := ⟨_, rfl⟩
    obtain ⟨w2, hw2⟩ : ∃ w2, w1.alloc (.cells #[.slice a1 md cap1, .int .u64 0] 27) = w2 := ⟨_, rfl⟩
    have hs1 := hb1.size
    obtain ⟨bx, hbx1, hbx2, hs8⟩ : ∃ bx, B0 ≤ bx ∧ bx ≠ q ∧ SlW bx w1 A7 m c7 X0 := by
      have hsq := HSQ.out
      by_cases h0 : m = 0
      · obtain ⟨g1, g2, g3, _⟩ := hs7
        exact ⟨q + 1, by omega, by omega, g1, g2, g3, .inl h0⟩
      · have hlt : bw < q := by
          obtain ⟨_, _, _, h | ⟨_, h, _⟩⟩ := hs7
          · exact absurd h h0
          · omega
        exact ⟨bw, by omega, by omega, hs7⟩
    have HN : Hid (SN B0 bx q w w2 A7 m c7 X0 Z0 0 bl1 a1 md cap1) := Lib.hid (by
      have hsq := HSQ.out
      rw [← hw2]
      refine ⟨hs8.below (alc0 _ _), (HLd.out.below hb1).below (alc0 _ _), ⟨by rw [← hq]; simp, by rw [← hq]; simp, by rw [← hq]; simp, by rw [← hq]; simp, by rw [← hq]; simp⟩, ⟨hbx2, ?_⟩, ⟨hbx1, by omega, by simp; omega⟩, (HBq.out.trans (hb1.mono (by omega))).alloc (by omega) _, HBD.out⟩
      rcases hblB with h | h
      · exact .inl h
      · exact .inr ⟨by omega, by omega⟩)
    have hml : X0.length = m := HLa.out.1
    obtain ⟨FIN, hF⟩ : ∃ F, shufL (m - 1) X0 Z0 0 = F := ⟨_, rfl⟩
    have HF := Lib.hid hF
    have HQ := Lib.hid (And.intro hq hw2)
    have HLx : Hid (Ints .i64 w2 a0 m X0) := Lib.hid (by rw [← hw2]; exact ((HLa.out.below hb1).below (alc0 _ _)).ints)
    have HLy : Hid (Ints .i64 w2 a1 md Z0) := Lib.hid (by rw [← hw2]; exact ((HLd.out.below hb1).below (alc0 _ _)).ints)
    have hs2 : B0 ≤ w2.heap.size := by rw [← hw2]; have := HSQ.out; simp; omega
    have HXB : Hid (md = 0 ∨ bl1 < B0) := Lib.hid hblB
    clear hmade hown hgr hb1 hbw hrb hs7 hs8 hq hw2 HLa HLd HBq hF hml hs1 hblB hbx1 HSQ
    go_upto_region 3 with (fail)
    rw [HQ.out.2, HQ.out.1]
    clear HQ
    go_wp2_with fail
    go_loopw [10] (fun i wr => ∃ (p : Nat) (X Z : List Int) (K : Int) (A : Option Addr) (n c : Nat), (i = .int .i64 (p : Int) ∧ p < m ∨ i = .int .i64 (-1) ∧ m = 0 ∧ p = 0) ∧ 0 ≤ K ∧ K + p ≤ 100 ∧ Hid (SN B0 bx q w wr A7 m c7 X Z K bl1 A n c) ∧ Hid (shufL p X Z K = FIN)) (fun i _ => (intOf i).toNat)
    case atStart =>
      by_cases h0 : m = 0
      · subst h0
        exact ⟨0, _, _, _, _, _, _, .inr ⟨by simp, rfl, rfl⟩, Int.le_refl _, by omega, HN, HF⟩
      · exact ⟨m - 1, _, _, _, _, _, _, .inl ⟨by rw [show (((m - 1 : Nat)) : Int) = (m : Int) - 1 by omega], by omega⟩, Int.le_refl _, by omega, HN, HF⟩
    case round =>
      clear HN
      obtain ⟨p, X, Z, K, A, n, c, hi, K0, K1, HN, HF2⟩ := hrel
      have hexit : p = 0 → X = FIN := by rintro rfl; exact HF2.out
      have HEX := Lib.hid hexit
      clear hexit
      rcases hi with ⟨rfl, hp⟩ | ⟨rfl, rfl, rfl⟩
      · cases p with
        | zero =>
          have HXF := Lib.hid (HEX.out rfl)
          have HS7 : Hid (SlW bx wr A7 m c7 FIN) := Lib.hid (by rw [← HXF.out]; exact HN.out.1)
          have HBW : Hid (Below B0 w wr ∧ B0 ≤ wr.heap.size) := Lib.hid ⟨HN.out.2.2.2.2.2.1, HN.out.2.2.2.2.1.2.2⟩
          clear HEX HN HF2 HXF
          go_wp2_with fail
          refine (dnew_b _ _ _ _ _ (HINT.out _ HBW.out.1).2 (by omega)).mono ?_
          rintro e w3 ⟨g, b, rfl, hd, hg, hb0, hb3, hb1⟩
          have HD := Lib.hid hd
          have HS8 := Lib.hid (HS7.out.below hb1)
          have HB3 : Hid (Below B0 w w3) := Lib.hid (HBW.out.1.trans (hb1.mono HBW.out.2))
          have hsz3 : B0 ≤ w3.heap.size := by have := HBW.out.2; have := hb1.size; omega
          have hgB : B0 ≤ g := by have := HBW.out.2; omega
          have HW3 := Lib.hid hb1.size
          have HS8' : Hid (m ≠ 0 → bx < wr.heap.size) := Lib.hid (fun h0 => by
            obtain ⟨_, _, _, h | ⟨_, h, _⟩⟩ := HS7.out
            · exact absurd h h0
            · exact h)
          clear hd hb1 hb0 HS7
          go_wp2_with fail
          refine (of_any a0 m cap0 X0 g b Z0 0 _ (HINT.out _ HB3.out).1 (by omega) HD.out hb3 (by omega) HBD.out).mono ?_
          rintro e w4 ⟨bo, A9, c9, rfl, hbo, hs9, hbl⟩
          rw [HF.out] at hs9
          have HS9 := Lib.hid hs9
          have HS7 : Hid (SlW bx w4 A7 m c7 FIN) := Lib.hid (HS8.out.keep (hbl wr.heap.size hg HW3.out).size (fun h0 _ => (hbl wr.heap.size hg HW3.out).block bx (HS8'.out h0)))
          have HB4 : Hid (Below B0 w w4) := Lib.hid (HB3.out.trans (hbl B0 hgB hsz3))
          have hsz4 : B0 ≤ w4.heap.size := by have := (hbl B0 hgB hsz3).size; omega
          clear hs9 hbl HD HS8 HB3 HS8' HW3 HBW hg hbo hb3 hsz3 hgB HINT
          go_wp2_with fail
          go_loopw [12] (fun i wr => ∃ k : Nat, k ≤ m ∧ i = .int .i64 k ∧ Hid (SlW bo wr A9 m c9 FIN) ∧ Hid (SlW bx wr A7 m c7 FIN) ∧ Hid (Below B0 w wr) ∧ B0 ≤ wr.heap.size) (fun i _ => m - (intOf i).toNat)
          case atStart => exact ⟨0, by omega, rfl, HS9, HS7, HB4, hsz4⟩
          case round =>
            clear HS9 HS7 HB4 hsz4
            obtain ⟨k, hk, rfl, HS9, HS7, HB4, hsz4⟩ := hrel
            by_cases hlt : k < m
            · have l1 : (k : Int) < ((m : Nat) : Int) := by omega
              obtain ⟨_, _, _, h0 | ⟨rfl, hr9⟩⟩ := HS9.out
              · omega
              · obtain ⟨_, _, _, h0 | ⟨rfl, hr7⟩⟩ := HS7.out
                · omega
                · have d9 := (hr9.2.2 k hlt).1
                  have d7 := (hr7.2.2 k hlt).1
                  clear hr9 hr7
                  obtain ⟨x, hx⟩ : ∃ x, FIN.getD k 0 = x := ⟨_, rfl⟩
                  rw [hx] at d9 d7
                  clear hx
                  go_wp2_with fail
                  go_quiet (fail)
                  go_wp2_with fail
                  go_roundw
                  case rel => exact ⟨k + 1, by omega, by go_num, Lib.hid (HS9.out.keep (Nat.le_refl _) (fun _ _ => rfl)), Lib.hid (HS7.out.keep (Nat.le_refl _) (fun _ _ => rfl)), Lib.hid (below_drewN HB4.out _), hsz4⟩
                  case measure => simp [intOf]; omega
            · obtain rfl : k = m := by omega
              go_wp2_with fail
              refine (s23awake _).mono ?_
              rintro e w5 ⟨rfl, hb⟩
              have HB5 : Hid (Below B0 w w5) := Lib.hid (HB4.out.trans (hb.mono hsz4))
              clear hb
              go_wp2
              go_ret
              exact ⟨rfl, by rw [HB0.out]; exact HB5.out⟩
        | succ p =>
          clear HEX
          have hvb := nxV_bd Z K ((p : Int) + 2) (by omega)
          obtain ⟨v, hv⟩ : ∃ v : Nat, nxV Z K ((p : Int) + 2) = (v : Int) := ⟨_, (Int.toNat_of_nonneg hvb.1).symm⟩
          have hvn : v < p + 2 := by omega
          have hF3 := HF2.out
          rw [shufL, hv, Int.toNat_natCast] at hF3
          have HF3 := Lib.hid hF3
          have HV := Lib.hid hv
          have hps : (((p + 1 : Nat) : Int)) = (p : Int) + 1 := by omega
          clear hF3 hv hvb HF2
          rw [hps]
          clear hps
          obtain ⟨q0, q1, qf0, qf1, hqs⟩ := HN.out.2.2.1
          go_wp2_with fail
          refine (rnext_any bl1 A n c Z K _ _ HN.out.2.1 (by omega) (by omega) (by omega) HN.out.2.2.2.2.2.2).mono ?_
          rintro e w9 ⟨A', n', c', rfl, hl9, hb9⟩
          have hpp : (p : Int) + 1 + 1 = (p : Int) + 2 := by omega
          rw [hpp, HV.out]
          have p0 := (hb9.cell (p := ⟨q, 0, none⟩) hqs).trans q0
          have p1 := (hb9.cell (p := ⟨q, 1, none⟩) hqs).trans q1
          have pf0 := (hb9.frozen (p := ⟨q, 0, none⟩) hqs).trans qf0
          have pf1 := (hb9.frozen (p := ⟨q, 1, none⟩) hqs).trans qf1
          have HN2 := Lib.hid (HN.out.next (K' := nxK Z K) hb9 hl9)
          clear hl9 hb9 hpp q0 q1 qf0 qf1 hqs HN
          go_upto_region 7 with (fail)
          obtain ⟨wb, hwb⟩ : ∃ wb, (w9.setCell ⟨q, 0, none⟩ (.slice A' n' c')).setCell ⟨q, 1, none⟩ (.int .u64 (nxK Z K)) = wb := ⟨_, rfl⟩
          rw [hwb] at HN2 ⊢
          clear hwb p0 p1 pf0 pf1
          have HN3 : Hid (∀ y1 y2, X.getD (p + 1) 0 = y1 → X.getD v 0 = y2 → SN B0 bx q w ((wb.setCell ⟨bx, p + 1, none⟩ (.int .i64 y2)).setCell ⟨bx, v, none⟩ (.int .i64 y1)).drew A7 m c7 (swp X (p + 1) v) Z.tail (nxK Z K) bl1 A' n' c') := Lib.hid (by rintro y1 y2 rfl rfl; exact HN2.out.chg (by omega) (by omega))
          obtain ⟨hx1, hx2, hx3, h0 | ⟨rfl, hrow⟩⟩ := HN2.out.1
          · omega
          · obtain ⟨d1, f1⟩ := hrow.2.2 (p + 1) (by omega)
            obtain ⟨d2, f2⟩ := hrow.2.2 v (by omega)
            have hbq : bx < wb.heap.size := hrow.1
            clear hrow hx1 hx2 hx3 HN2
            obtain ⟨y1, hq1⟩ : ∃ y1, X.getD (p + 1) 0 = y1 := ⟨_, rfl⟩
            obtain ⟨y2, hq2⟩ : ∃ y2, X.getD v 0 = y2 := ⟨_, rfl⟩
            rw [hq1] at d1
            rw [hq2] at d2
            have HN4 := Lib.hid (HN3.out y1 y2 hq1 hq2)
            have i1 : ((p : Int) + 1).toNat = p + 1 := by omega
            have i2 : (p : Int) + 1 < (m : Int) := by omega
            have i3 : (v : Int) < (m : Int) := by omega
            have i4 : 0 ≤ (p : Int) + 1 := by omega
            have hK2 : 0 ≤ nxK Z K ∧ nxK Z K ≤ K + 1 := by unfold nxK; split <;> omega
            obtain ⟨hK2, hK4⟩ := hK2
            have hK3 : nxK Z K + p ≤ 100 := by omega
            clear hK4 HN3
            by_cases hvp : v = p + 1
            · subst hvp
              obtain rfl : y1 = y2 := by rw [← hq1, ← hq2]
              clear hq1 hq2 d2 f2
              have i5 : (((p + 1 : Nat) : Int)) = (p : Int) + 1 := by omega
              rw [i5] at i3 ⊢
              go_region
              all_goals
                go_wp2_with fail
                go_roundw
                case rel => exact ⟨p, _, _, _, A', n', c', .inl ⟨by go_num, by omega⟩, hK2, hK3, HN4, HF3⟩
                case measure => simp [intOf]
            · clear hq1 hq2
              have hvp2 : ¬ p + 1 = v := fun h => hvp h.symm
              go_region
              all_goals
                go_wp2_with fail
                go_roundw
                case rel => exact ⟨p, _, _, _, A', n', c', .inl ⟨by go_num, by omega⟩, hK2, hK3, HN4, HF3⟩
                case measure => simp [intOf]
      · have HXF := Lib.hid (HEX.out rfl)
        have HS7 : Hid (SlW bx wr A7 0 c7 FIN) := Lib.hid (by rw [← HXF.out]; exact HN.out.1)
        have HBW : Hid (Below B0 w wr ∧ B0 ≤ wr.heap.size) := Lib.hid ⟨HN.out.2.2.2.2.2.1, HN.out.2.2.2.2.1.2.2⟩
        clear HEX HN HF2 HXF
        go_wp2_with fail
        refine (dnew_b _ _ _ _ _ (HINT.out _ HBW.out.1).2 (by omega)).mono ?_
        rintro e w3 ⟨g, b, rfl, hd, hg, hb0, hb3, hb1⟩
        have HD := Lib.hid hd
        have HS8 := Lib.hid (HS7.out.below hb1)
        have HB3 : Hid (Below B0 w w3) := Lib.hid (HBW.out.1.trans (hb1.mono HBW.out.2))
        have hsz3 : B0 ≤ w3.heap.size := by have := HBW.out.2; have := hb1.size; omega
        have hgB : B0 ≤ g := by have := HBW.out.2; omega
        have HW3 := Lib.hid hb1.size
        have HS8' : Hid (0 ≠ 0 → bx < wr.heap.size) := Lib.hid (fun h0 => by
          obtain ⟨_, _, _, h | ⟨_, h, _⟩⟩ := HS7.out
          · exact absurd h h0
          · exact h)
        clear hd hb1 hb0 HS7
        go_wp2_with fail
        refine (of_any a0 0 cap0 X0 g b Z0 0 _ (HINT.out _ HB3.out).1 (by omega) HD.out hb3 (by omega) HBD.out).mono ?_
        rintro e w4 ⟨bo, A9, c9, rfl, hbo, hs9, hbl⟩
        rw [HF.out] at hs9
        have HS9 := Lib.hid hs9
        have HS7 : Hid (SlW bx w4 A7 0 c7 FIN) := Lib.hid (HS8.out.keep (hbl wr.heap.size hg HW3.out).size (fun h0 _ => (hbl wr.heap.size hg HW3.out).block bx (HS8'.out h0)))
        have HB4 : Hid (Below B0 w w4) := Lib.hid (HB3.out.trans (hbl B0 hgB hsz3))
        have hsz4 : B0 ≤ w4.heap.size := by have := (hbl B0 hgB hsz3).size; omega
        clear hs9 hbl HD HS8 HB3 HS8' HW3 HBW hg hbo hb3 hsz3 hgB HINT
        go_wp2_with fail
        go_loopw [12] (fun i wr => ∃ k : Nat, k ≤ 0 ∧ i = .int .i64 k ∧ Hid (SlW bo wr A9 0 c9 FIN) ∧ Hid (SlW bx wr A7 0 c7 FIN) ∧ Hid (Below B0 w wr) ∧ B0 ≤ wr.heap.size) (fun i _ => 0 - (intOf i).toNat)
        case atStart => exact ⟨0, by omega, rfl, HS9, HS7, HB4, hsz4⟩
        case round =>
          clear HS9 HS7 HB4 hsz4
          obtain ⟨k, hk, rfl, HS9, HS7, HB4, hsz4⟩ := hrel
          by_cases hlt : k < 0
          · exact absurd hlt (Nat.not_lt_zero _)
          · obtain rfl : k = 0 := by omega
            go_wp2_with fail
            refine (s23awake _).mono ?_
            rintro e w5 ⟨rfl, hb⟩
            have HB5 : Hid (Below B0 w w5) := Lib.hid (HB4.out.trans (hb.mono hsz4))
            clear hb
            go_wp2
            go_ret
            exact ⟨rfl, by rw [HB0.out]; exact HB5.out⟩
end Go.Proofs.Ytbmcgoodilomlaa
