/- The walk of StatCounts. -/
import Derived.Test.YtjblgamngnnccaaDoorStatT
import Derived.Test.YtjblgamngnnccaaDoorZb
import Derived.Test.YtjblgamngnnccaaDoorRecs
import Derived.Deep.RegionWith
import Derived.Deep.MidRow
namespace Go.Proofs.YtjblgamngnnccaaDoor
open Go.RowKit
set_option linter.unusedVariables false
set_option linter.unusedSimpArgs false

/-- What the loop keeps: the counts (at sb), the statement's own (at wb, alike), the sizes (in b). -/
def SC (B0 sb wb : Nat) (w W : World) (v5 : Value) (g v e l p c : Int) (zs : List Int) (b : Nat) : Prop :=
  StAt sb W g v e l p c ∧ StAt wb W g v e l p c ∧ ZB b W v5 zs ∧ (sb ≠ wb ∧ b ≠ sb ∧ b ≠ wb) ∧ (B0 ≤ sb ∧ B0 ≤ wb ∧ B0 ≤ b ∧ B0 ≤ W.heap.size) ∧ Below B0 w W
/-- The numbers' bounds, i rounds on. -/
def SB (i : Nat) (g v e l p c : Int) (zs : List Int) : Prop :=
  0 ≤ e ∧ e ≤ v ∧ v ≤ g ∧ g ≤ i ∧ g - v = zs.length ∧ l = sumL zs ∧ 0 ≤ l ∧ l ≤ p ∧ p ≤ 70000 * i ∧ 0 ≤ c ∧ c ≤ 70000 * i ∧ (∀ z ∈ zs, 0 ≤ z ∧ z ≤ 70000)
theorem SB.get {i : Nat} {g v e l p c M P : Int} {zs : List Int} (h : SB i g v e l p c zs) (hM : 0 ≤ M ∧ M ≤ 70000) (hP : (p < l + M ∧ l + M = P) ∨ (l + M ≤ p ∧ p = P)) : SB (i + 1) (g + 1) v e (l + M) P c (zs ++ [M]) := by
  obtain ⟨h1, h2, h3, h4, h5, h6, h7, h8, h9, h10, h11, h12⟩ := h
  have hb := sumL_bd zs h12
  refine ⟨h1, h2, by omega, by omega, by simp; omega, by rw [sumL_snoc]; omega, by omega, by omega, by omega, h10, by omega, fun z hz => ?_⟩
  rcases List.mem_append.1 hz with h | h
  · exact h12 z h
  · simp at h; omega
theorem SB.give {i : Nat} {g v e l p c z : Int} {r : List Int} (h : SB i g v e l p c (z :: r)) : SB (i + 1) g (v + 1) e (l - z) p c r := by
  obtain ⟨h1, h2, h3, h4, h5, h6, h7, h8, h9, h10, h11, h12⟩ := h
  have hb := sumL_bd r (fun z hz => h12 z (by simp [hz]))
  have hz := h12 z (by simp)
  simp only [sumL, List.length_cons] at h5 h6
  exact ⟨h1, by omega, by omega, by omega, by omega, by omega, by omega, by omega, by omega, h10, by omega, fun z hz => h12 z (by simp [hz])⟩
theorem SB.same {i : Nat} {g v e l p c : Int} {zs : List Int} (h : SB i g v e l p c zs) : SB (i + 1) g v e l p c zs := by
  obtain ⟨h1, h2, h3, h4, h5, h6, h7, h8, h9, h10, h11, h12⟩ := h
  exact ⟨h1, h2, h3, by omega, h5, h6, h7, h8, by omega, h10, by omega, h12⟩
theorem SB.ended {i : Nat} {g v e l p c : Int} {zs : List Int} (h : SB i g v e l p c zs) (hl : e < v) : SB (i + 1) g v (e + 1) l p c zs := by
  obtain ⟨h1, h2, h3, h4, h5, h6, h7, h8, h9, h10, h11, h12⟩ := h
  exact ⟨by omega, by omega, h3, by omega, h5, h6, h7, h8, by omega, h10, by omega, h12⟩
theorem SB.clear {i : Nat} {g v e l p c M : Int} {zs : List Int} (h : SB i g v e l p c zs) (hM : 0 ≤ M ∧ M ≤ 70000) : SB (i + 1) g v e l p (c + M) zs := by
  obtain ⟨h1, h2, h3, h4, h5, h6, h7, h8, h9, h10, h11, h12⟩ := h
  exact ⟨h1, h2, h3, by omega, h5, h6, h7, h8, by omega, by omega, by omega, h12⟩
theorem infoStat : (Tryd.prog.info? 24).map (·.size) = some 6 := by kernel_rfl
/-- A struct of counts is stored whole. -/
theorem wpl_st {ops : Array Oper} {rest : List Oper} {o : Oper} {a : Act} {Q : Exit → Act → World → Prop} {W : World} (hgd : o.guard = none) (hd : o.dst = none) (p v : Operand)
    (ho : o.op = .store 24 p v) (x : Nat) (g v0 e l p0 c g' v' e' l' p' c' : Int) (hp : a.eval p = .pointer (some ⟨x, 0, none⟩)) (hv : a.eval v = .agg #[.int .i64 g', .int .i64 v', .int .i64 e', .int .i64 l', .int .i64 p', .int .i64 c'])
    (HS : StAt x W g v0 e l p0 c)
    (h : ∀ ws, StAt x ws g' v' e' l' p' c' → Below x W ws → (∀ i, i ≠ x → ws.heap[i]? = W.heap[i]?) → ws.heap.size = W.heap.size → wpList Tryd.prog ops Q rest a ws) :
    wpList Tryd.prog ops Q (o :: rest) a W := by
  obtain ⟨ws, hws, h1, h2, h3, h4⟩ := st_store HS g' v' e' l' p' c'
  obtain ⟨_, k0, k1, k2, k3, k4, k5, kf⟩ := HS
  have hc : W.setCells x 0 [.int .i64 g', .int .i64 v', .int .i64 e', .int .i64 l', .int .i64 p', .int .i64 c'] = ws := hws
  refine wpList_store_mid hgd 24 p v ho x 0 #[.int .i64 g', .int .i64 v', .int .i64 e', .int .i64 l', .int .i64 p', .int .i64 c'] hp hv (fun j hj => ?_) infoStat (by simp [Value.oneCell']) ?_
  · have hj2 : j = 0 ∨ j = 1 ∨ j = 2 ∨ j = 3 ∨ j = 4 ∨ j = 5 := by simp at hj; omega
    rcases hj2 with rfl | rfl | rfl | rfl | rfl | rfl
    · exact ⟨by rw [k0]; rfl, kf 0 (by omega)⟩
    · exact ⟨by rw [k1]; rfl, kf 1 (by omega)⟩
    · exact ⟨by rw [k2]; rfl, kf 2 (by omega)⟩
    · exact ⟨by rw [k3]; rfl, kf 3 (by omega)⟩
    · exact ⟨by rw [k4]; rfl, kf 4 (by omega)⟩
    · exact ⟨by rw [k5]; rfl, kf 5 (by omega)⟩
  · rw [show (#[.int .i64 g', .int .i64 v', .int .i64 e', .int .i64 l', .int .i64 p', .int .i64 c'] : Array Value).toList = [.int .i64 g', .int .i64 v', .int .i64 e', .int .i64 l', .int .i64 p', .int .i64 c'] from rfl, hc, hd]
    exact h ws h1 h2 h3 h4
theorem sc_get {B0 sb wb b : Nat} {w W : World} {v5 : Value} {g v e l p c g0 l0 p0 : Int} {zs : List Int} (h1 : StAt sb W g v e l p c) (h2 : StAt wb W g0 v e l0 p0 c) (h3 : ZB b W v5 zs) (d1 : sb ≠ wb) (d2 : b ≠ sb) (d3 : b ≠ wb) (t1 : B0 ≤ sb) (t2 : B0 ≤ wb) (t3 : B0 ≤ b) (t4 : B0 ≤ W.heap.size) (hb : Below B0 w W) (G L P : Int) (hg : G = g := by rfl) (hl : L = l := by rfl) (hp : P = p := by rfl) :
    SC B0 sb wb w (((W.setCell ⟨wb, 0, none⟩ (.int .i64 G)).setCell ⟨wb, 3, none⟩ (.int .i64 L)).setCell ⟨wb, 4, none⟩ (.int .i64 P)) v5 g v e l p c zs b := by
  subst hg hl hp
  exact ⟨((h1.far d1).far d1).far d1, ((h2.s0 _).s3 _).s4 _, h3.keep (by simp only [size_set]; exact Nat.le_refl _) (fun _ => by rw [heap_other _ wb 4 _ b d3, heap_other _ wb 3 _ b d3, heap_other _ wb 0 _ b d3]), ⟨d1, d2, d3⟩, ⟨t1, t2, t3, by simp only [size_set]; exact t4⟩, ((hb.setCell t2 _).setCell t2 _).setCell t2 _⟩
theorem sc_give {B0 sb wb b : Nat} {w W : World} {v5 : Value} {g v e l p c v0 l0 : Int} {zs : List Int} (h1 : StAt sb W g v e l p c) (h2 : StAt wb W g v0 e l0 p c) (h3 : ZB b W v5 zs) (d1 : sb ≠ wb) (d2 : b ≠ sb) (d3 : b ≠ wb) (t1 : B0 ≤ sb) (t2 : B0 ≤ wb) (t3 : B0 ≤ b) (t4 : B0 ≤ W.heap.size) (hb : Below B0 w W) :
    SC B0 sb wb w ((W.setCell ⟨wb, 1, none⟩ (.int .i64 v)).setCell ⟨wb, 3, none⟩ (.int .i64 l)) v5 g v e l p c zs b :=
  ⟨(h1.far d1).far d1, (h2.s1 _).s3 _, h3.keep (by simp only [size_set]; exact Nat.le_refl _) (fun _ => by rw [heap_other _ wb 3 _ b d3, heap_other _ wb 1 _ b d3]), ⟨d1, d2, d3⟩, ⟨t1, t2, t3, by simp only [size_set]; exact t4⟩, (hb.setCell t2 _).setCell t2 _⟩
theorem sc_end {B0 sb wb b : Nat} {w W : World} {v5 : Value} {g v e l p c e0 : Int} {zs : List Int} (h1 : StAt sb W g v e l p c) (h2 : StAt wb W g v e0 l p c) (h3 : ZB b W v5 zs) (d1 : sb ≠ wb) (d2 : b ≠ sb) (d3 : b ≠ wb) (t1 : B0 ≤ sb) (t2 : B0 ≤ wb) (t3 : B0 ≤ b) (t4 : B0 ≤ W.heap.size) (hb : Below B0 w W) :
    SC B0 sb wb w (W.setCell ⟨wb, 2, none⟩ (.int .i64 e)) v5 g v e l p c zs b :=
  ⟨h1.far d1, h2.s2 _, h3.keep (by simp only [size_set]; exact Nat.le_refl _) (fun _ => by rw [heap_other _ wb 2 _ b d3]), ⟨d1, d2, d3⟩, ⟨t1, t2, t3, by simp only [size_set]; exact t4⟩, hb.setCell t2 _⟩
theorem sc_clear {B0 sb wb b : Nat} {w W : World} {v5 : Value} {g v e l p c c0 : Int} {zs : List Int} (h1 : StAt sb W g v e l p c) (h2 : StAt wb W g v e l p c0) (h3 : ZB b W v5 zs) (d1 : sb ≠ wb) (d2 : b ≠ sb) (d3 : b ≠ wb) (t1 : B0 ≤ sb) (t2 : B0 ≤ wb) (t3 : B0 ≤ b) (t4 : B0 ≤ W.heap.size) (hb : Below B0 w W) :
    SC B0 sb wb w (W.setCell ⟨wb, 5, none⟩ (.int .i64 c)) v5 g v e l p c zs b :=
  ⟨h1.far d1, h2.s5 _, h3.keep (by simp only [size_set]; exact Nat.le_refl _) (fun _ => by rw [heap_other _ wb 5 _ b d3]), ⟨d1, d2, d3⟩, ⟨t1, t2, t3, by simp only [size_set]; exact t4⟩, hb.setCell t2 _⟩
theorem SC.below {B0 sb wb : Nat} {w W W' : World} {v5 : Value} {g v e l p c : Int} {zs : List Int} {b : Nat} (h : SC B0 sb wb w W v5 g v e l p c zs b) (hb : Below W.heap.size W W') : SC B0 sb wb w W' v5 g v e l p c zs b := by
  obtain ⟨h1, h2, h3, h4, ⟨t1, t2, t3, t4⟩, h6⟩ := h
  exact ⟨h1.below hb, h2.below hb, h3.below hb, h4, ⟨t1, t2, t3, by have := hb.size; omega⟩, h6.trans (hb.mono t4)⟩
set_option maxRecDepth 100000 in
set_option maxHeartbeats 3200000 in
theorem walkStatCounts (a0 : Option Addr) (len0 cap0 : Nat) (z0 : List Int) (w : World) (w0 : IsRecs 2 w a0 len0 cap0 z0) (ht : PowTab w) :
    Calls Tryd.prog 3 #[.slice a0 len0 cap0] w fun e w' => e = .returned (.bool true) ∧ Below w.heap.size w w' := by
  have HR := Lib.hid (w0.recs (by decide))
  clear w0
  have T := Lib.hid ht
  clear ht
  obtain ⟨n1, hn1, hn2, hn3⟩ : ∃ n : Nat, n ≤ len0 ∧ n ≤ 40 ∧ (n < len0 → n = 40) := ⟨min len0 40, by omega, by omega, by omega⟩
  obtain ⟨B0, hB0⟩ : ∃ B0, w.heap.size = B0 := ⟨_, rfl⟩
  obtain ⟨w3, hw3⟩ : ∃ w3, ((w.alloc (.cells #[] 3)).alloc (.cells #[.int .i64 0, .int .i64 0, .int .i64 0, .int .i64 0, .int .i64 0, .int .i64 0] 24)).alloc (.cells #[.int .i64 0, .int .i64 0, .int .i64 0, .int .i64 0, .int .i64 0, .int .i64 0] 24) = w3 := ⟨_, rfl⟩
  have HN : Hid (SC B0 (B0 + 1) (B0 + 2) w w3 (.slice (some ⟨B0, 0, none⟩) 0 0) 0 0 0 0 0 0 [] B0) := Lib.hid (by
    have s1 : (w.alloc (.cells #[] 3)).heap.size = B0 + 1 := by simp [hB0]
    have s2 : ((w.alloc (.cells #[] 3)).alloc (.cells #[.int .i64 0, .int .i64 0, .int .i64 0, .int .i64 0, .int .i64 0, .int .i64 0] 24)).heap.size = B0 + 2 := by simp [hB0]
    have q1 := StAt.new (w.alloc (.cells #[] 3)) 0 0 0 0 0 0 24
    have q2 := StAt.new ((w.alloc (.cells #[] 3)).alloc (.cells #[.int .i64 0, .int .i64 0, .int .i64 0, .int .i64 0, .int .i64 0, .int .i64 0] 24)) 0 0 0 0 0 0 24
    rw [s1] at q1
    rw [s2] at q2
    rw [← hw3]
    exact ⟨q1.below (alc0 _ _), q2, ⟨_, 0, 0, rfl, rfl, Nat.le_refl _, by omega, .inr ⟨0, rfl, by simp; omega, fun i hi => by omega, fun i hi => by omega⟩⟩, ⟨by omega, by omega, by omega⟩, ⟨by omega, by omega, by omega, by simp; omega⟩, by rw [← hB0]; exact alc (alc (alc0 _ _) _) _⟩)
  have HB0 := Lib.hid hB0
  have HW3 := Lib.hid hw3
  clear hw3 hB0
  go_enter Tryd.func3, Tryd.ntmps3
  go_upto_region 3 with (fail)
  rw [HW3.out, HB0.out]
  clear HW3
  obtain ⟨sb, hsb⟩ : ∃ sb, B0 + 1 = sb := ⟨_, rfl⟩
  obtain ⟨wb, hwb⟩ : ∃ wb, sb + 1 = wb := ⟨_, rfl⟩
  have hs2 : B0 + 2 = sb + 1 := by omega
  rw [hsb, hs2] at HN
  rw [hwb] at HN
  rw [hsb, hwb]
  clear hsb hwb hs2
  go_wp2_with fail
  go_loopw [4, 5, 7] (fun v4 v5 v7 wr => ∃ (k : Nat) (g v e l p c : Int) (zs : List Int) (b : Nat), k ≤ n1 ∧ v7 = .int .i64 k ∧ v4 = .int .i64 l ∧ Hid (SB k g v e l p c zs) ∧ Hid (SC B0 sb wb w wr v5 g v e l p c zs b)) (fun _ _ v7 _ => n1 - (intOf v7).toNat)
  case atStart => exact ⟨0, 0, 0, 0, 0, 0, 0, [], B0, by omega, rfl, rfl, Lib.hid ⟨by omega, by omega, by omega, by omega, by simp, by simp [sumL], by omega, by omega, by omega, by omega, by omega, by simp⟩, HN⟩
  case round =>
    clear HN
    obtain ⟨k, g, v, e, l, p, c, zs, b, hk, rfl, rfl, HB, HN⟩ := hrel
    by_cases hlt : k < n1
    · obtain ⟨_, hbd, h0 | ⟨bb, off, rfl, hbb, _, hc⟩⟩ := HR.out
      · omega
      · have hbelW := HN.out.2.2.2.2.2
        have c0 := (hbelW.cell (p := ⟨bb, off + k * 2, none⟩) (by rw [← HB0.out]; exact hbb)).trans (hc (k * 2) (by omega))
        have c1 := (hbelW.cell (p := ⟨bb, off + (k * 2 + 1), none⟩) (by rw [← HB0.out]; exact hbb)).trans (hc (k * 2 + 1) (by omega))
        rw [← Nat.add_assoc] at c1
        have e3 := and3 (z0.getD (k * 2) 0)
        have e16 := and65535 (z0.getD (k * 2 + 1) 0)
        have a0' := Int.emod_nonneg (z0.getD (k * 2) 0) (b := 4) (by decide)
        have a1' := Int.emod_lt_of_pos (z0.getD (k * 2) 0) (b := 4) (by decide)
        have b0' := Int.emod_nonneg (z0.getD (k * 2 + 1) 0) (b := 65536) (by decide)
        have b1' := Int.emod_lt_of_pos (z0.getD (k * 2 + 1) 0) (b := 65536) (by decide)
        obtain ⟨x0, hx0⟩ : ∃ x, z0.getD (k * 2) 0 = x := ⟨_, rfl⟩
        obtain ⟨x1, hx1⟩ : ∃ x, z0.getD (k * 2 + 1) 0 = x := ⟨_, rfl⟩
        rw [hx0] at c0 e3 a0' a1'
        rw [hx1] at c1 e16 b0' b1'
        obtain ⟨m, hm⟩ : ∃ m, x0 % 4 = m := ⟨_, rfl⟩
        obtain ⟨N, hN⟩ : ∃ N, x1 % 65536 = N := ⟨_, rfl⟩
        rw [hm] at e3 a0' a1'
        rw [hN] at e16 b0' b1'
        clear hc hbelW hbd hx0 hx1 hm hN
        have l1 : (k : Int) < len0 := by omega
        have l2 : (k : Int) < 40 := by omega
        go_upto_block 2 with (fail)
        go_cut [4, 5] (fun v4 v5 wx => ∃ (g v e l p c : Int) (zs : List Int) (b : Nat), v4 = .int .i64 l ∧ Hid (SB (k + 1) g v e l p c zs) ∧ Hid (SC B0 sb wb w wx v5 g v e l p c zs b))
        case first =>
          obtain ⟨q1, q2, q3, ⟨d1, d2, d3⟩, ⟨t1, t2, t3, t4⟩, q6⟩ := HN.out
          have HS := Lib.hid q1
          have HW := Lib.hid q2
          have HZ := Lib.hid q3
          have HBL := Lib.hid q6
          have hsl : sb < wr.heap.size := q1.1
          have hwl : wb < wr.heap.size := q2.1
          obtain ⟨h1, h2, h3, h4, h5, h6, h7, h8, h9, h10, h11, h12⟩ := HB.out
          have hzl : zs.length ≤ 1000 := by omega
          clear q1 q2 q3 q6 HN h5 h6 h12 c0 c1
          have hm4 : m = 0 ∨ m = 1 ∨ m = 2 ∨ m = 3 := by omega
          rcases hm4 with rfl | rfl | rfl | rfl
          · rcases Int.lt_or_le (N - 5) 0 with hn | hn
            · rcases Int.lt_or_le p l with hp | hp
              · exfalso; omega
              · have hn2 : N - 5 < 0 := hn
                have hp2 : ¬ p < l := by omega
                have HB2 : Hid (SB (k + 1) (g + 1) v e l p c (zs ++ [0])) := Lib.hid (by have := HB.out.get (M := 0) (P := p) (by omega) (.inr ⟨by omega, rfl⟩); simpa using this)
                obtain ⟨_, k0, k1, k2, k3, k4, k5, kf⟩ := HS.out
                have kf0 := kf 0 (by omega)
                have kf1 := kf 1 (by omega)
                have kf2 := kf 2 (by omega)
                have kf3 := kf 3 (by omega)
                have kf4 := kf 4 (by omega)
                have kf5 := kf 5 (by omega)
                clear kf
                go_wp2_with fail
                refine (get_is g v e l p c (N - 5) 0 p _ (by omega) (by omega) (by omega) (by omega) (by omega) (by omega) (by omega) (.inl ⟨hn, rfl⟩) (.inr ⟨by omega, rfl⟩)).mono ?_
                rintro e1 w1 ⟨rfl, hb⟩
                clear k0 k1 k2 k3 k4 k5 kf0 kf1 kf2 kf3 kf4 kf5
                simp only [Int.add_zero]
                have hmx1 : max (N - 5) 0 = 0 := by omega
                have hmx2 : max p l = p := by omega
                have HS1 := Lib.hid (HS.out.below hb)
                have HW1 := Lib.hid (HW.out.below hb)
                have HZ1 := Lib.hid (HZ.out.below hb)
                have HBL1 : Hid (Below B0 w w1) := Lib.hid (HBL.out.trans (hb.mono t4))
                have t5 : B0 ≤ w1.heap.size := by have := hb.size; omega
                have hsl1 : sb < w1.heap.size := HS1.out.1
                have hwl1 : wb < w1.heap.size := HW1.out.1
                clear hb HS HW HZ HBL
                go_wp2_with (refine wpl_st rfl rfl (.tmp 3) (.tmp 48) rfl sb g v e l p c (g + 1) v e l p c rfl rfl HS1.out ?_)
                intro ws hst hbs hos hsz
                have HST := Lib.hid hst
                have HW2 := Lib.hid (HW1.out.keep (by omega) (hos wb (Ne.symm d1)))
                have HZ2 := Lib.hid (HZ1.out.keep (by omega) (fun _ => hos b d2))
                have HBL2 : Hid (Below B0 w ws) := Lib.hid (HBL1.out.trans (hbs.mono t1))
                have hsz2 : ws.heap.size = w1.heap.size := hsz
                have HSZ := Lib.hid hsz2
                clear hst hbs hos hsz hsz2 HS1 HW1 HZ1 HBL1
                go_wp2_with (at_builtin; refine app_zb rfl (.tmp 53) (.tmp 56) rfl b _ zs rfl (HZ2.out.below (alc0 _ _)) 0 ws.heap.size 1 rfl (by simp) (by omega) ?_)
                intro v9 w3 hz3
                obtain ⟨b', hb', hzb, hs3, ho3, hbel3⟩ := hz3
                have HZ3 := Lib.hid hzb
                have hsa : (ws.alloc (.cells #[.int .i64 0] 3)).heap.size = w1.heap.size + 1 := by rw [World.size_alloc, HSZ.out]
                have HS3 := Lib.hid ((HST.out.below (alc0 _ _)).keep hs3 (ho3 sb (by omega) (Ne.symm d2)))
                have HW3 := Lib.hid ((HW2.out.below (alc0 _ _)).keep hs3 (ho3 wb (by omega) (Ne.symm d3)))
                have HBL3 : Hid (Below B0 w w3) := Lib.hid ((HBL2.out.alloc (by rw [HSZ.out]; exact t5) _).trans (hbel3 B0 t3 (by omega)))
                have hq1 : b' ≠ sb := by omega
                have hq2 : b' ≠ wb := by omega
                have hq3 : B0 ≤ b' := by omega
                have t6 : B0 ≤ w3.heap.size := by omega
                clear hb' hzb hs3 ho3 hbel3 hsa HST HW2 HZ2 HBL2
                obtain ⟨_, m0, m1, m2, m3, m4, m5, mf⟩ := HW3.out
                have mf0 := mf 0 (by omega)
                have mf1 := mf 1 (by omega)
                have mf2 := mf 2 (by omega)
                have mf3 := mf 3 (by omega)
                have mf4 := mf 4 (by omega)
                have mf5 := mf 5 (by omega)
                clear mf
                go_wp2_with fail
                go_meet
                exact ⟨_, _, _, _, _, _, _, b', rfl, HB2, Lib.hid (sc_get HS3.out HW3.out HZ3.out d1 hq1 hq2 t1 t2 hq3 t6 HBL3.out (g + 1) l p)⟩

            · rcases Int.lt_or_le p (l + (N - 5)) with hp | hp
              · have hn2 : ¬ N - 5 < 0 := by omega
                have hp2 : p < (l + (N - 5)) := by omega
                have HB2 : Hid (SB (k + 1) (g + 1) v e (l + (N - 5)) (l + (N - 5)) c (zs ++ [(N - 5)])) := Lib.hid (by have := HB.out.get (M := (N - 5)) (P := (l + (N - 5))) (by omega) (.inl ⟨by omega, by omega⟩); simpa using this)
                obtain ⟨_, k0, k1, k2, k3, k4, k5, kf⟩ := HS.out
                have kf0 := kf 0 (by omega)
                have kf1 := kf 1 (by omega)
                have kf2 := kf 2 (by omega)
                have kf3 := kf 3 (by omega)
                have kf4 := kf 4 (by omega)
                have kf5 := kf 5 (by omega)
                clear kf
                go_wp2_with fail
                refine (get_is g v e l p c (N - 5) (N - 5) (l + (N - 5)) _ (by omega) (by omega) (by omega) (by omega) (by omega) (by omega) (by omega) (.inr ⟨hn, rfl⟩) (.inl ⟨by omega, by omega⟩)).mono ?_
                rintro e1 w1 ⟨rfl, hb⟩
                clear k0 k1 k2 k3 k4 k5 kf0 kf1 kf2 kf3 kf4 kf5
                have hmx1 : max (N - 5) 0 = (N - 5) := by omega
                have hmx2 : max p (l + (N - 5)) = (l + (N - 5)) := by omega
                have HS1 := Lib.hid (HS.out.below hb)
                have HW1 := Lib.hid (HW.out.below hb)
                have HZ1 := Lib.hid (HZ.out.below hb)
                have HBL1 : Hid (Below B0 w w1) := Lib.hid (HBL.out.trans (hb.mono t4))
                have t5 : B0 ≤ w1.heap.size := by have := hb.size; omega
                have hsl1 : sb < w1.heap.size := HS1.out.1
                have hwl1 : wb < w1.heap.size := HW1.out.1
                clear hb HS HW HZ HBL
                go_wp2_with (refine wpl_st rfl rfl (.tmp 3) (.tmp 48) rfl sb g v e l p c (g + 1) v e (l + (N - 5)) (l + (N - 5)) c rfl rfl HS1.out ?_)
                intro ws hst hbs hos hsz
                have HST := Lib.hid hst
                have HW2 := Lib.hid (HW1.out.keep (by omega) (hos wb (Ne.symm d1)))
                have HZ2 := Lib.hid (HZ1.out.keep (by omega) (fun _ => hos b d2))
                have HBL2 : Hid (Below B0 w ws) := Lib.hid (HBL1.out.trans (hbs.mono t1))
                have hsz2 : ws.heap.size = w1.heap.size := hsz
                have HSZ := Lib.hid hsz2
                clear hst hbs hos hsz hsz2 HS1 HW1 HZ1 HBL1
                go_wp2_with (at_builtin; refine app_zb rfl (.tmp 53) (.tmp 56) rfl b _ zs rfl (HZ2.out.below (alc0 _ _)) (N - 5) ws.heap.size 1 rfl (by simp) (by omega) ?_)
                intro v9 w3 hz3
                obtain ⟨b', hb', hzb, hs3, ho3, hbel3⟩ := hz3
                have HZ3 := Lib.hid hzb
                have hsa : (ws.alloc (.cells #[.int .i64 (N - 5)] 3)).heap.size = w1.heap.size + 1 := by rw [World.size_alloc, HSZ.out]
                have HS3 := Lib.hid ((HST.out.below (alc0 _ _)).keep hs3 (ho3 sb (by omega) (Ne.symm d2)))
                have HW3 := Lib.hid ((HW2.out.below (alc0 _ _)).keep hs3 (ho3 wb (by omega) (Ne.symm d3)))
                have HBL3 : Hid (Below B0 w w3) := Lib.hid ((HBL2.out.alloc (by rw [HSZ.out]; exact t5) _).trans (hbel3 B0 t3 (by omega)))
                have hq1 : b' ≠ sb := by omega
                have hq2 : b' ≠ wb := by omega
                have hq3 : B0 ≤ b' := by omega
                have t6 : B0 ≤ w3.heap.size := by omega
                clear hb' hzb hs3 ho3 hbel3 hsa HST HW2 HZ2 HBL2
                obtain ⟨_, m0, m1, m2, m3, m4, m5, mf⟩ := HW3.out
                have mf0 := mf 0 (by omega)
                have mf1 := mf 1 (by omega)
                have mf2 := mf 2 (by omega)
                have mf3 := mf 3 (by omega)
                have mf4 := mf 4 (by omega)
                have mf5 := mf 5 (by omega)
                clear mf
                go_wp2_with fail
                go_meet
                exact ⟨_, _, _, _, _, _, _, b', rfl, HB2, Lib.hid (sc_get HS3.out HW3.out HZ3.out d1 hq1 hq2 t1 t2 hq3 t6 HBL3.out (g + 1) (l + (N - 5)) (l + (N - 5)))⟩

              · have hn2 : ¬ N - 5 < 0 := by omega
                have hp2 : ¬ p < (l + (N - 5)) := by omega
                have HB2 : Hid (SB (k + 1) (g + 1) v e (l + (N - 5)) p c (zs ++ [(N - 5)])) := Lib.hid (by have := HB.out.get (M := (N - 5)) (P := p) (by omega) (.inr ⟨by omega, rfl⟩); simpa using this)
                obtain ⟨_, k0, k1, k2, k3, k4, k5, kf⟩ := HS.out
                have kf0 := kf 0 (by omega)
                have kf1 := kf 1 (by omega)
                have kf2 := kf 2 (by omega)
                have kf3 := kf 3 (by omega)
                have kf4 := kf 4 (by omega)
                have kf5 := kf 5 (by omega)
                clear kf
                go_wp2_with fail
                refine (get_is g v e l p c (N - 5) (N - 5) p _ (by omega) (by omega) (by omega) (by omega) (by omega) (by omega) (by omega) (.inr ⟨hn, rfl⟩) (.inr ⟨by omega, rfl⟩)).mono ?_
                rintro e1 w1 ⟨rfl, hb⟩
                clear k0 k1 k2 k3 k4 k5 kf0 kf1 kf2 kf3 kf4 kf5
                have hmx1 : max (N - 5) 0 = (N - 5) := by omega
                have hmx2 : max p (l + (N - 5)) = p := by omega
                have HS1 := Lib.hid (HS.out.below hb)
                have HW1 := Lib.hid (HW.out.below hb)
                have HZ1 := Lib.hid (HZ.out.below hb)
                have HBL1 : Hid (Below B0 w w1) := Lib.hid (HBL.out.trans (hb.mono t4))
                have t5 : B0 ≤ w1.heap.size := by have := hb.size; omega
                have hsl1 : sb < w1.heap.size := HS1.out.1
                have hwl1 : wb < w1.heap.size := HW1.out.1
                clear hb HS HW HZ HBL
                go_wp2_with (refine wpl_st rfl rfl (.tmp 3) (.tmp 48) rfl sb g v e l p c (g + 1) v e (l + (N - 5)) p c rfl rfl HS1.out ?_)
                intro ws hst hbs hos hsz
                have HST := Lib.hid hst
                have HW2 := Lib.hid (HW1.out.keep (by omega) (hos wb (Ne.symm d1)))
                have HZ2 := Lib.hid (HZ1.out.keep (by omega) (fun _ => hos b d2))
                have HBL2 : Hid (Below B0 w ws) := Lib.hid (HBL1.out.trans (hbs.mono t1))
                have hsz2 : ws.heap.size = w1.heap.size := hsz
                have HSZ := Lib.hid hsz2
                clear hst hbs hos hsz hsz2 HS1 HW1 HZ1 HBL1
                go_wp2_with (at_builtin; refine app_zb rfl (.tmp 53) (.tmp 56) rfl b _ zs rfl (HZ2.out.below (alc0 _ _)) (N - 5) ws.heap.size 1 rfl (by simp) (by omega) ?_)
                intro v9 w3 hz3
                obtain ⟨b', hb', hzb, hs3, ho3, hbel3⟩ := hz3
                have HZ3 := Lib.hid hzb
                have hsa : (ws.alloc (.cells #[.int .i64 (N - 5)] 3)).heap.size = w1.heap.size + 1 := by rw [World.size_alloc, HSZ.out]
                have HS3 := Lib.hid ((HST.out.below (alc0 _ _)).keep hs3 (ho3 sb (by omega) (Ne.symm d2)))
                have HW3 := Lib.hid ((HW2.out.below (alc0 _ _)).keep hs3 (ho3 wb (by omega) (Ne.symm d3)))
                have HBL3 : Hid (Below B0 w w3) := Lib.hid ((HBL2.out.alloc (by rw [HSZ.out]; exact t5) _).trans (hbel3 B0 t3 (by omega)))
                have hq1 : b' ≠ sb := by omega
                have hq2 : b' ≠ wb := by omega
                have hq3 : B0 ≤ b' := by omega
                have t6 : B0 ≤ w3.heap.size := by omega
                clear hb' hzb hs3 ho3 hbel3 hsa HST HW2 HZ2 HBL2
                obtain ⟨_, m0, m1, m2, m3, m4, m5, mf⟩ := HW3.out
                have mf0 := mf 0 (by omega)
                have mf1 := mf 1 (by omega)
                have mf2 := mf 2 (by omega)
                have mf3 := mf 3 (by omega)
                have mf4 := mf 4 (by omega)
                have mf5 := mf 5 (by omega)
                clear mf
                go_wp2_with fail
                go_meet
                exact ⟨_, _, _, _, _, _, _, b', rfl, HB2, Lib.hid (sc_get HS3.out HW3.out HZ3.out d1 hq1 hq2 t1 t2 hq3 t6 HBL3.out (g + 1) (l + (N - 5)) p)⟩

          · cases zs with
            | nil =>
              obtain ⟨A, n, cc, rfl, z1, z2, z3, z4⟩ := HZ.out
              obtain rfl : n = 0 := by simpa using z1.symm
              clear z1 z4
              go_wp2_with fail
              go_meet
              exact ⟨g, v, e, l, p, c, [], b, rfl, Lib.hid HB.out.same, Lib.hid ⟨HS.out, HW.out, HZ.out, ⟨d1, d2, d3⟩, ⟨t1, t2, t3, t4⟩, HBL.out⟩⟩
            | cons z r =>
              obtain ⟨A, n, cc, rfl, z1, z2, z3, z4⟩ := HZ.out
              rcases z4 with ⟨_, z4, _⟩ | ⟨off2, rfl, z4, z5, z6⟩
              · simp at z1; omega
              · have hz0 : 0 ≤ z ∧ z ≤ 70000 := HB.out.2.2.2.2.2.2.2.2.2.2.2 z (by simp)
                have hn1 : r.length + 1 = n := by simpa using z1
                have HZ1 := Lib.hid (And.intro hn1 (And.intro z5 z6))
                have hzc := z5 0 (by omega)
                simp only [Nat.add_zero, List.getD_cons_zero] at hzc
                have n1' : (0 : Int) < n := by omega
                have n2' : 0 < n := by omega
                have n3' : (1 : Int) ≤ n := by omega
                have n4' : (n : Int) ≤ cc := by omega
                obtain ⟨hz0, hz1⟩ := hz0
                have HGV := Lib.hid HB.out.give
                clear z1 z5 z6 hn1
                go_upto_region 18 with (fail)
                go_cut [] (fun wx => Hid (StAt sb wx g (v + 1) e (l - z) p c) ∧ Hid (StAt wb wx g v e l p c) ∧ Hid (ZB b wx (.slice (some ⟨b, off2, none⟩) n cc) (z :: r)) ∧ Hid (Below B0 w wx) ∧ B0 ≤ wx.heap.size ∧ wb < wx.heap.size)
                case first =>
                  obtain ⟨_, k0, k1, k2, k3, k4, k5, kf⟩ := HS.out
                  have kf0 := kf 0 (by omega)
                  have kf1 := kf 1 (by omega)
                  have kf2 := kf 2 (by omega)
                  have kf3 := kf 3 (by omega)
                  have kf4 := kf 4 (by omega)
                  have kf5 := kf 5 (by omega)
                  clear kf
                  have HA := Lib.hid (fun w7 : World => give_is g v e l p c z w7 (by omega) (by omega) (by omega) (by omega) (by omega) (by omega) (by omega))
                  go_region_with (go_at_call 8; (with_reducible refine Calls.mono (HA.out _) ?_); rintro e9 w9 ⟨rfl, hb9⟩; have hb8 : Below wr.heap.size wr w9 := (by first | exact hb9 | exact (Below.refl _ _).drew.trans hb9); have HSx := Lib.hid (HS.out.below hb8); have HWx := Lib.hid (HW.out.below hb8); have HZx := Lib.hid (HZ.out.below hb8); have HBx : Hid (Below B0 w w9) := Lib.hid (HBL.out.trans (hb8.mono t4)); have tx : B0 ≤ w9.heap.size := (by have := hb8.size; omega); obtain ⟨_, m0, m1, m2, m3, m4, m5, mf⟩ := HSx.out; have mf0 := mf 0 (by omega); have mf1 := mf 1 (by omega); have mf2 := mf 2 (by omega); have mf3 := mf 3 (by omega); have mf4 := mf 4 (by omega); have mf5 := mf 5 (by omega); obtain ⟨ws, hws, hst, hbs, hos, hsz⟩ := st_store HSx.out g (v + 1) e (l - z) p c; have HST := Lib.hid hst; have HWy := Lib.hid (HWx.out.keep (by omega) (hos wb (Ne.symm d1))); have HZy := Lib.hid (HZx.out.keep (by omega) (fun _ => hos b d2)); have HBy : Hid (Below B0 w ws) := Lib.hid (HBx.out.trans (hbs.mono t1)); have ty : B0 ≤ ws.heap.size := (by omega); have tz : wb < ws.heap.size := HWy.out.1; clear hst hbs hos hsz hb8 hb9 mf)
                  all_goals
                    go_wp2_with fail
                    go_meet
                    exact ⟨HST, HWy, HZy, HBy, ty, tz⟩
                case rest =>
                  obtain ⟨HST, HWy, HZy, HBy, ty, tz⟩ := hcut
                  have hzd := (Lib.hid HZy.out).out
                  obtain ⟨A3, n3, c3, e3x, y1, y2, y3, y4⟩ := hzd
                  injection e3x with ex1 ex2 ex3
                  subst ex1 ex2 ex3
                  rcases y4 with ⟨y4, _⟩ | ⟨off3, ex, y4, y5, y6⟩
                  · cases y4
                  · injection ex with ex
                    injection ex with ex4 ex5
                    subst ex5
                    have hzc2 := y5 0 (by omega)
                    simp only [Nat.add_zero, List.getD_cons_zero] at hzc2
                    have HY := Lib.hid (And.intro y1 (And.intro y4 (And.intro y5 y6)))
                    clear y1 y4 y5 y6 hzc
                    obtain ⟨_, m0, m1, m2, m3, m4, m5, mf⟩ := HWy.out
                    have mf0 := mf 0 (by omega)
                    have mf1 := mf 1 (by omega)
                    have mf2 := mf 2 (by omega)
                    have mf3 := mf 3 (by omega)
                    have mf4 := mf 4 (by omega)
                    have mf5 := mf 5 (by omega)
                    clear mf
                    by_cases hc1 : cc = 1
                    · subst hc1
                      go_wp2_with fail
                      go_meet
                      refine ⟨g, v + 1, e, l - z, p, c, r, b, rfl, HGV, Lib.hid (sc_give HST.out HWy.out ⟨_, 0, 0, rfl, by have := HY.out.1; simp at this; omega, by omega, by omega, .inr ⟨off2, rfl, HY.out.2.1, fun i hi => by omega, fun i hi => by omega⟩⟩ d1 d2 d3 t1 t2 t3 ty HBy.out)⟩
                    · go_wp2_with fail
                      go_meet
                      refine ⟨g, v + 1, e, l - z, p, c, r, b, rfl, HGV, Lib.hid (sc_give HST.out HWy.out ⟨_, n - 1, cc - 1, rfl, by have := HY.out.1; simp at this; omega, by omega, by omega, .inr ⟨off2 + 1, rfl, HY.out.2.1, fun i hi => ?_, fun i hi => ?_⟩⟩ d1 d2 d3 t1 t2 t3 ty HBy.out)⟩
                      · have := HY.out.2.2.1 (i + 1) (by omega)
                        simpa [Nat.add_assoc, Nat.add_comm 1 i] using this
                      · have := HY.out.2.2.2 (i + 1) (by omega)
                        simpa [Nat.add_assoc, Nat.add_comm 1 i] using this
          · by_cases hev : e < v
            · have HB2 := Lib.hid (HB.out.ended hev)
              obtain ⟨_, k0, k1, k2, k3, k4, k5, kf⟩ := HS.out
              have kf0 := kf 0 (by omega)
              have kf1 := kf 1 (by omega)
              have kf2 := kf 2 (by omega)
              have kf3 := kf 3 (by omega)
              have kf4 := kf 4 (by omega)
              have kf5 := kf 5 (by omega)
              clear kf
              obtain ⟨_, m0, m1, m2, m3, m4, m5, mf⟩ := HW.out
              clear mf
              go_wp2_with fail
              refine (end_is g v e l p c _ (by omega) (by omega) (by omega) (by omega) (by omega) (by omega)).mono ?_
              rintro e1 w1 ⟨rfl, hb⟩
              clear k0 k1 k2 k3 k4 k5 kf0 kf1 kf2 kf3 kf4 kf5 m0 m1 m2 m3 m4 m5
              have HS1 := Lib.hid (HS.out.below hb)
              have HW1 := Lib.hid (HW.out.below hb)
              have HZ1 := Lib.hid (HZ.out.below hb)
              have HBL1 : Hid (Below B0 w w1) := Lib.hid (HBL.out.trans (hb.mono t4))
              have t5 : B0 ≤ w1.heap.size := by have := hb.size; omega
              clear hb HS HW HZ HBL
              go_wp2_with (refine wpl_st rfl rfl (.tmp 3) (.tmp 100) rfl sb g v e l p c g v (e + 1) l p c rfl rfl HS1.out ?_)
              intro ws hst hbs hos hsz
              have HST := Lib.hid hst
              have HW2 := Lib.hid (HW1.out.keep (by omega) (hos wb (Ne.symm d1)))
              have HZ2 := Lib.hid (HZ1.out.keep (by omega) (fun _ => hos b d2))
              have HBL2 : Hid (Below B0 w ws) := Lib.hid (HBL1.out.trans (hbs.mono t1))
              have t6 : B0 ≤ ws.heap.size := by omega
              clear hst hbs hos hsz HS1 HW1 HZ1 HBL1
              obtain ⟨_, m0, m1, m2, m3, m4, m5, mf⟩ := HW2.out
              have mf0 := mf 0 (by omega)
              have mf1 := mf 1 (by omega)
              have mf2 := mf 2 (by omega)
              have mf3 := mf 3 (by omega)
              have mf4 := mf 4 (by omega)
              have mf5 := mf 5 (by omega)
              clear mf
              go_wp2_with fail
              go_meet
              exact ⟨_, _, _, _, _, _, _, b, rfl, HB2, Lib.hid (sc_end HST.out HW2.out HZ2.out d1 d2 d3 t1 t2 t3 t6 HBL2.out)⟩
            · obtain ⟨_, m0, m1, m2, m3, m4, m5, mf⟩ := HW.out
              clear mf
              go_wp2_with fail
              go_meet
              exact ⟨g, v, e, l, p, c, zs, b, rfl, Lib.hid HB.out.same, Lib.hid ⟨HS.out, HW.out, HZ.out, ⟨d1, d2, d3⟩, ⟨t1, t2, t3, t4⟩, HBL.out⟩⟩
          · rcases Int.lt_or_le (N - 5) 0 with hn | hn
            · have HB2 : Hid (SB (k + 1) g v e l p c zs) := Lib.hid (by have := HB.out.clear (M := 0) (by omega); simpa using this)
              obtain ⟨_, k0, k1, k2, k3, k4, k5, kf⟩ := HS.out
              have kf0 := kf 0 (by omega)
              have kf1 := kf 1 (by omega)
              have kf2 := kf 2 (by omega)
              have kf3 := kf 3 (by omega)
              have kf4 := kf 4 (by omega)
              have kf5 := kf 5 (by omega)
              clear kf
              obtain ⟨_, m0, m1, m2, m3, m4, m5, mf⟩ := HW.out
              clear mf
              go_wp2_with fail
              refine (clear_is g v e l p c (N - 5) 0 _ (by omega) (by omega) (by omega) (by omega) (by omega) (by omega) (by omega) (.inl ⟨hn, rfl⟩)).mono ?_
              rintro e1 w1 ⟨rfl, hb⟩
              simp only [Int.add_zero]
              have hmx1 : max (N - 5) 0 = 0 := by omega
              clear k0 k1 k2 k3 k4 k5 kf0 kf1 kf2 kf3 kf4 kf5 m0 m1 m2 m3 m4 m5
              have HS1 := Lib.hid (HS.out.below hb)
              have HW1 := Lib.hid (HW.out.below hb)
              have HZ1 := Lib.hid (HZ.out.below hb)
              have HBL1 : Hid (Below B0 w w1) := Lib.hid (HBL.out.trans (hb.mono t4))
              have t5 : B0 ≤ w1.heap.size := by have := hb.size; omega
              clear hb HS HW HZ HBL
              go_wp2_with (refine wpl_st rfl rfl (.tmp 3) (.tmp 37) rfl sb g v e l p c g v e l p c rfl rfl HS1.out ?_)
              intro ws hst hbs hos hsz
              have HST := Lib.hid hst
              have HW2 := Lib.hid (HW1.out.keep (by omega) (hos wb (Ne.symm d1)))
              have HZ2 := Lib.hid (HZ1.out.keep (by omega) (fun _ => hos b d2))
              have HBL2 : Hid (Below B0 w ws) := Lib.hid (HBL1.out.trans (hbs.mono t1))
              have t6 : B0 ≤ ws.heap.size := by omega
              clear hst hbs hos hsz HS1 HW1 HZ1 HBL1
              obtain ⟨_, m0, m1, m2, m3, m4, m5, mf⟩ := HW2.out
              have mf0 := mf 0 (by omega)
              have mf1 := mf 1 (by omega)
              have mf2 := mf 2 (by omega)
              have mf3 := mf 3 (by omega)
              have mf4 := mf 4 (by omega)
              have mf5 := mf 5 (by omega)
              clear mf
              go_wp2_with fail
              go_meet
              exact ⟨_, _, _, _, _, _, _, b, rfl, HB2, Lib.hid (sc_clear HST.out HW2.out HZ2.out d1 d2 d3 t1 t2 t3 t6 HBL2.out)⟩

            · have HB2 : Hid (SB (k + 1) g v e l p (c + (N - 5)) zs) := Lib.hid (by have := HB.out.clear (M := (N - 5)) (by omega); simpa using this)
              obtain ⟨_, k0, k1, k2, k3, k4, k5, kf⟩ := HS.out
              have kf0 := kf 0 (by omega)
              have kf1 := kf 1 (by omega)
              have kf2 := kf 2 (by omega)
              have kf3 := kf 3 (by omega)
              have kf4 := kf 4 (by omega)
              have kf5 := kf 5 (by omega)
              clear kf
              obtain ⟨_, m0, m1, m2, m3, m4, m5, mf⟩ := HW.out
              clear mf
              go_wp2_with fail
              refine (clear_is g v e l p c (N - 5) (N - 5) _ (by omega) (by omega) (by omega) (by omega) (by omega) (by omega) (by omega) (.inr ⟨hn, rfl⟩)).mono ?_
              rintro e1 w1 ⟨rfl, hb⟩
              have hmx1 : max (N - 5) 0 = (N - 5) := by omega
              clear k0 k1 k2 k3 k4 k5 kf0 kf1 kf2 kf3 kf4 kf5 m0 m1 m2 m3 m4 m5
              have HS1 := Lib.hid (HS.out.below hb)
              have HW1 := Lib.hid (HW.out.below hb)
              have HZ1 := Lib.hid (HZ.out.below hb)
              have HBL1 : Hid (Below B0 w w1) := Lib.hid (HBL.out.trans (hb.mono t4))
              have t5 : B0 ≤ w1.heap.size := by have := hb.size; omega
              clear hb HS HW HZ HBL
              go_wp2_with (refine wpl_st rfl rfl (.tmp 3) (.tmp 37) rfl sb g v e l p c g v e l p (c + (N - 5)) rfl rfl HS1.out ?_)
              intro ws hst hbs hos hsz
              have HST := Lib.hid hst
              have HW2 := Lib.hid (HW1.out.keep (by omega) (hos wb (Ne.symm d1)))
              have HZ2 := Lib.hid (HZ1.out.keep (by omega) (fun _ => hos b d2))
              have HBL2 : Hid (Below B0 w ws) := Lib.hid (HBL1.out.trans (hbs.mono t1))
              have t6 : B0 ≤ ws.heap.size := by omega
              clear hst hbs hos hsz HS1 HW1 HZ1 HBL1
              obtain ⟨_, m0, m1, m2, m3, m4, m5, mf⟩ := HW2.out
              have mf0 := mf 0 (by omega)
              have mf1 := mf 1 (by omega)
              have mf2 := mf 2 (by omega)
              have mf3 := mf 3 (by omega)
              have mf4 := mf 4 (by omega)
              have mf5 := mf 5 (by omega)
              clear mf
              go_wp2_with fail
              go_meet
              exact ⟨_, _, _, _, _, _, _, b, rfl, HB2, Lib.hid (sc_clear HST.out HW2.out HZ2.out d1 d2 d3 t1 t2 t3 t6 HBL2.out)⟩

        case rest =>
          obtain ⟨g, v, e, l, p, c, zs, b, rfl, HB2, HN2⟩ := hcut
          clear HB HN c0 c1
          obtain ⟨q1, q2, q3, ⟨d1, d2, d3⟩, ⟨t1, t2, t3, t4⟩, q6⟩ := HN2.out
          obtain ⟨h1, h2, h3, h4, h5, h6, h7, h8, h9, h10, h11, h12⟩ := HB2.out
          obtain ⟨A, n, cc, rfl, z1, z2, z3, z4⟩ := q3
          have hgv : g - v = (n : Int) := by omega
          have HGV := Lib.hid hgv
          clear h5 h6 h12 z1 z4 hgv
          obtain ⟨_, k0, k1, k2, k3, k4, k5, kf⟩ := q1
          obtain ⟨_, m0, m1, m2, m3, m4, m5, mf⟩ := q2
          have hsl : sb < wc.heap.size := HN2.out.1.1
          have hwl : wb < wc.heap.size := HN2.out.2.1.1
          clear kf mf q6
          go_upto_region 27 with (fail)
          obtain ⟨wk, hwk⟩ : ∃ wk, wk = wc := ⟨_, rfl⟩
          refine wp_region_held_drew (S := (fun w' => w'.cell? ⟨sb, 0, none⟩ = some (.int .i64 g) ∧ w'.cell? ⟨sb, 1, none⟩ = some (.int .i64 v) ∧ w'.cell? ⟨sb, 2, none⟩ = some (.int .i64 e) ∧ w'.cell? ⟨sb, 3, none⟩ = some (.int .i64 l) ∧ w'.cell? ⟨sb, 4, none⟩ = some (.int .i64 p) ∧ w'.cell? ⟨sb, 5, none⟩ = some (.int .i64 c) ∧ w'.cell? ⟨wb, 0, none⟩ = some (.int .i64 g) ∧ w'.cell? ⟨wb, 1, none⟩ = some (.int .i64 v) ∧ w'.cell? ⟨wb, 2, none⟩ = some (.int .i64 e) ∧ w'.cell? ⟨wb, 3, none⟩ = some (.int .i64 l) ∧ w'.cell? ⟨wb, 4, none⟩ = some (.int .i64 p) ∧ w'.cell? ⟨wb, 5, none⟩ = some (.int .i64 c) ∧ Hid (Below wk.heap.size wk w') ∧ sb < w'.heap.size ∧ wb < w'.heap.size)) (by kernel_rfl) ?_ (fun hHeld => ?_)
          · subst hwk; exact ⟨k0, k1, k2, k3, k4, k5, m0, m1, m2, m3, m4, m5, Lib.hid ((Below.refl _ _).drew), hsl, hwl⟩
          clear k0 k1 k2 k3 k4 k5 m0 m1 m2 m3 m4 m5
          refine wpAnyH_take (i := 0) (v := ?_) rfl (by kernel_rfl) (by kernel_rfl) (by kernel_rfl) (fun _ _ _ h => h) (Or.inl ⟨by kernel_rfl, ?_⟩) (by assumption) ?_
          rotate_left
          · (intro w hSw; (try dsimp only at hSw); go_simp)
            try (with_reducible rfl)
          rotate_left
          try simp (maxSteps := 4000000) only [Act.put, List.setIfInBounds_toArray, List.set_cons_zero, List.set_cons_succ, List.getElem_toArray, List.getElem_cons_zero, List.getElem_cons_succ]
          refine wpAnyH_take (i := 1) (v := ?_) rfl (by kernel_rfl) (by kernel_rfl) (by kernel_rfl) (fun _ _ _ h => h) (Or.inl ⟨by kernel_rfl, ?_⟩) (by assumption) ?_
          rotate_left
          · (intro w hSw; (try dsimp only at hSw); go_simp)
            try (with_reducible rfl)
          rotate_left
          try simp (maxSteps := 4000000) only [Act.put, List.setIfInBounds_toArray, List.set_cons_zero, List.set_cons_succ, List.getElem_toArray, List.getElem_cons_zero, List.getElem_cons_succ]
          refine wpAnyH_take (i := 2) (v := ?_) rfl (by kernel_rfl) (by kernel_rfl) (by kernel_rfl) (fun _ _ _ h => h) (Or.inl ⟨by kernel_rfl, ?_⟩) (by assumption) ?_
          rotate_left
          · (intro w hSw; (try dsimp only at hSw); go_simp)
            try (with_reducible rfl)
          rotate_left
          try simp (maxSteps := 4000000) only [Act.put, List.setIfInBounds_toArray, List.set_cons_zero, List.set_cons_succ, List.getElem_toArray, List.getElem_cons_zero, List.getElem_cons_succ]
          refine wpAnyH_take (i := 3) (v := ?_) rfl (by kernel_rfl) (by kernel_rfl) (by kernel_rfl) (fun _ _ _ h => h) (Or.inl ⟨by kernel_rfl, ?_⟩) (by assumption) ?_
          rotate_left
          · (intro w hSw; (try dsimp only at hSw); go_simp)
            try (with_reducible rfl)
          rotate_left
          try simp (maxSteps := 4000000) only [Act.put, List.setIfInBounds_toArray, List.set_cons_zero, List.set_cons_succ, List.getElem_toArray, List.getElem_cons_zero, List.getElem_cons_succ]
          refine wpAnyH_take (i := 4) (v := ?_) rfl (by kernel_rfl) (by kernel_rfl) (by kernel_rfl) (fun _ _ _ h => h) (Or.inl ⟨by kernel_rfl, ?_⟩) (by assumption) ?_
          rotate_left
          · (intro w hSw; (try dsimp only at hSw); go_simp)
            try (with_reducible rfl)
          rotate_left
          try simp (maxSteps := 4000000) only [Act.put, List.setIfInBounds_toArray, List.set_cons_zero, List.set_cons_succ, List.getElem_toArray, List.getElem_cons_zero, List.getElem_cons_succ]
          refine wpAnyH_ready (rs := [5]) (by kernel_rfl) (by simp) ?_
          refine AllReadyH.cons rfl (fun K2 hK2 => ?_) AllReadyH.nil
          go_simp
          with_reducible refine Calls.mono (may_yes g v e l p c _ (by omega) (by omega) (by omega) (by omega) (by omega) (by omega) (by omega) (by omega) (by omega)) ?_
          rintro e9 w9 ⟨rfl, hb⟩
          refine hK2.out _ _ ?_ (fun hHeld2 => ?_)
          · obtain ⟨a0, a1, a2, a3, a4, a5, b0, b1, b2, b3, b4, b5, jb, js, jw⟩ := hHeld
            exact ⟨(hb.cell (p := ⟨sb, 0, none⟩) js).trans a0, (hb.cell (p := ⟨sb, 1, none⟩) js).trans a1, (hb.cell (p := ⟨sb, 2, none⟩) js).trans a2, (hb.cell (p := ⟨sb, 3, none⟩) js).trans a3, (hb.cell (p := ⟨sb, 4, none⟩) js).trans a4, (hb.cell (p := ⟨sb, 5, none⟩) js).trans a5, (hb.cell (p := ⟨wb, 0, none⟩) jw).trans b0, (hb.cell (p := ⟨wb, 1, none⟩) jw).trans b1, (hb.cell (p := ⟨wb, 2, none⟩) jw).trans b2, (hb.cell (p := ⟨wb, 3, none⟩) jw).trans b3, (hb.cell (p := ⟨wb, 4, none⟩) jw).trans b4, (hb.cell (p := ⟨wb, 5, none⟩) jw).trans b5, Lib.hid (thn jb.out hb), Nat.lt_of_lt_of_le js hb.size, Nat.lt_of_lt_of_le jw hb.size⟩
          clear hb
          clear hK2 K2 hHeld
          have hHeld := hHeld2
          clear hHeld2
          try simp (maxSteps := 4000000) only [Act.put, List.setIfInBounds_toArray, List.set_cons_zero, List.set_cons_succ]
          refine wpAnyH_take (i := 6) (v := ?_) rfl (by kernel_rfl) (by kernel_rfl) (by kernel_rfl) (fun _ _ _ h => h) (Or.inl ⟨by kernel_rfl, ?_⟩) (by assumption) ?_
          rotate_left
          · (intro w hSw; (try dsimp only at hSw); go_simp)
            try (with_reducible rfl)
          rotate_left
          try simp (maxSteps := 4000000) only [Act.put, List.setIfInBounds_toArray, List.set_cons_zero, List.set_cons_succ, List.getElem_toArray, List.getElem_cons_zero, List.getElem_cons_succ]
          refine wpAnyH_take (i := 7) (v := ?_) rfl (by kernel_rfl) (by kernel_rfl) (by kernel_rfl) (fun _ _ _ h => h) (Or.inl ⟨by kernel_rfl, ?_⟩) (by assumption) ?_
          rotate_left
          · (intro w hSw; (try dsimp only at hSw); go_simp)
            try (with_reducible rfl)
          rotate_left
          try simp (maxSteps := 4000000) only [Act.put, List.setIfInBounds_toArray, List.set_cons_zero, List.set_cons_succ, List.getElem_toArray, List.getElem_cons_zero, List.getElem_cons_succ]
          refine wpAnyH_take (i := 8) (v := ?_) rfl (by kernel_rfl) (by kernel_rfl) (by kernel_rfl) (fun _ _ _ h => h) (Or.inl ⟨by kernel_rfl, ?_⟩) (by assumption) ?_
          rotate_left
          · (intro w hSw; (try dsimp only at hSw); go_simp)
            try (with_reducible rfl)
          rotate_left
          try simp (maxSteps := 4000000) only [Act.put, List.setIfInBounds_toArray, List.set_cons_zero, List.set_cons_succ, List.getElem_toArray, List.getElem_cons_zero, List.getElem_cons_succ]
          refine wpAnyH_take (i := 9) (v := ?_) rfl (by kernel_rfl) (by kernel_rfl) (by kernel_rfl) (fun _ _ _ h => h) (Or.inl ⟨by kernel_rfl, ?_⟩) (by assumption) ?_
          rotate_left
          · (intro w hSw; (try dsimp only at hSw); go_simp)
            try (with_reducible rfl)
          rotate_left
          try simp (maxSteps := 4000000) only [Act.put, List.setIfInBounds_toArray, List.set_cons_zero, List.set_cons_succ, List.getElem_toArray, List.getElem_cons_zero, List.getElem_cons_succ]
          refine wpAnyH_take (i := 11) (v := ?_) rfl (by kernel_rfl) (by kernel_rfl) (by kernel_rfl) (fun _ _ _ h => h) (Or.inl ⟨by kernel_rfl, ?_⟩) (by assumption) ?_
          rotate_left
          · (intro w hSw; (try dsimp only at hSw); go_simp)
            try (with_reducible rfl)
          rotate_left
          try simp (maxSteps := 4000000) only [Act.put, List.setIfInBounds_toArray, List.set_cons_zero, List.set_cons_succ, List.getElem_toArray, List.getElem_cons_zero, List.getElem_cons_succ]
          refine wpAnyH_take (i := 12) (v := ?_) rfl (by kernel_rfl) (by kernel_rfl) (by kernel_rfl) (fun _ _ _ h => h) (Or.inl ⟨by kernel_rfl, ?_⟩) (by assumption) ?_
          rotate_left
          · (intro w hSw; (try dsimp only at hSw); go_simp)
            try (with_reducible rfl)
          rotate_left
          try simp (maxSteps := 4000000) only [Act.put, List.setIfInBounds_toArray, List.set_cons_zero, List.set_cons_succ, List.getElem_toArray, List.getElem_cons_zero, List.getElem_cons_succ]
          refine wpAnyH_ready (rs := [10]) (by kernel_rfl) (by simp) ?_
          refine AllReadyH.cons rfl (fun K2 hK2 => ?_) AllReadyH.nil
          go_simp
          with_reducible refine Calls.mono (live_is g v e l p c _ (by omega) (by omega) (by omega) (by omega) (by omega) (by omega)) ?_
          rintro e9 w9 ⟨rfl, hb⟩
          rw [HGV.out]
          refine hK2.out _ _ ?_ (fun hHeld2 => ?_)
          · obtain ⟨a0, a1, a2, a3, a4, a5, b0, b1, b2, b3, b4, b5, jb, js, jw⟩ := hHeld
            exact ⟨(hb.cell (p := ⟨sb, 0, none⟩) js).trans a0, (hb.cell (p := ⟨sb, 1, none⟩) js).trans a1, (hb.cell (p := ⟨sb, 2, none⟩) js).trans a2, (hb.cell (p := ⟨sb, 3, none⟩) js).trans a3, (hb.cell (p := ⟨sb, 4, none⟩) js).trans a4, (hb.cell (p := ⟨sb, 5, none⟩) js).trans a5, (hb.cell (p := ⟨wb, 0, none⟩) jw).trans b0, (hb.cell (p := ⟨wb, 1, none⟩) jw).trans b1, (hb.cell (p := ⟨wb, 2, none⟩) jw).trans b2, (hb.cell (p := ⟨wb, 3, none⟩) jw).trans b3, (hb.cell (p := ⟨wb, 4, none⟩) jw).trans b4, (hb.cell (p := ⟨wb, 5, none⟩) jw).trans b5, Lib.hid (thn jb.out hb), Nat.lt_of_lt_of_le js hb.size, Nat.lt_of_lt_of_le jw hb.size⟩
          clear hb
          clear hK2 K2 hHeld
          have hHeld := hHeld2
          clear hHeld2
          try simp (maxSteps := 4000000) only [Act.put, List.setIfInBounds_toArray, List.set_cons_zero, List.set_cons_succ]
          refine wpAnyH_take (i := 13) (v := ?_) rfl (by kernel_rfl) (by kernel_rfl) (by kernel_rfl) (fun _ _ _ h => h) (Or.inl ⟨by kernel_rfl, ?_⟩) (by assumption) ?_
          rotate_left
          · (intro w hSw; (try dsimp only at hSw); go_simp)
            try (with_reducible rfl)
          rotate_left
          try simp (maxSteps := 4000000) only [Act.put, List.setIfInBounds_toArray, List.set_cons_zero, List.set_cons_succ, List.getElem_toArray, List.getElem_cons_zero, List.getElem_cons_succ]
          refine wpAnyH_take (i := 14) (v := ?_) rfl (by kernel_rfl) (by kernel_rfl) (by kernel_rfl) (fun _ _ _ h => h) (Or.inl ⟨by kernel_rfl, ?_⟩) (by assumption) ?_
          rotate_left
          · (intro w hSw; (try dsimp only at hSw); go_simp)
            try (with_reducible rfl)
          rotate_left
          try simp (maxSteps := 4000000) only [Act.put, List.setIfInBounds_toArray, List.set_cons_zero, List.set_cons_succ, List.getElem_toArray, List.getElem_cons_zero, List.getElem_cons_succ]
          refine wpAnyH_take (i := 15) (v := ?_) rfl (by kernel_rfl) (by kernel_rfl) (by kernel_rfl) (fun _ _ _ h => h) (Or.inl ⟨by kernel_rfl, ?_⟩) (by assumption) ?_
          rotate_left
          · (intro w hSw; (try dsimp only at hSw); go_simp)
            try (with_reducible rfl)
          rotate_left
          try simp (maxSteps := 4000000) only [Act.put, List.setIfInBounds_toArray, List.set_cons_zero, List.set_cons_succ, List.getElem_toArray, List.getElem_cons_zero, List.getElem_cons_succ]
          refine wpAnyH_take (i := 16) (v := ?_) rfl (by kernel_rfl) (by kernel_rfl) (by kernel_rfl) (fun _ _ _ h => h) (Or.inl ⟨by kernel_rfl, ?_⟩) (by assumption) ?_
          rotate_left
          · (intro w hSw; (try dsimp only at hSw); go_simp)
            try (with_reducible rfl)
          rotate_left
          try simp (maxSteps := 4000000) only [Act.put, List.setIfInBounds_toArray, List.set_cons_zero, List.set_cons_succ, List.getElem_toArray, List.getElem_cons_zero, List.getElem_cons_succ]
          refine wpAnyH_take (i := 18) (v := ?_) rfl (by kernel_rfl) (by kernel_rfl) (by kernel_rfl) (fun _ _ _ h => h) (Or.inl ⟨by kernel_rfl, ?_⟩) (by assumption) ?_
          rotate_left
          · (intro w hSw; (try dsimp only at hSw); go_simp)
            try (with_reducible rfl)
          rotate_left
          try simp (maxSteps := 4000000) only [Act.put, List.setIfInBounds_toArray, List.set_cons_zero, List.set_cons_succ, List.getElem_toArray, List.getElem_cons_zero, List.getElem_cons_succ]
          refine wpAnyH_take (i := 19) (v := ?_) rfl (by kernel_rfl) (by kernel_rfl) (by kernel_rfl) (fun _ _ _ h => h) (Or.inl ⟨by kernel_rfl, ?_⟩) (by assumption) ?_
          rotate_left
          · (intro w hSw; (try dsimp only at hSw); go_simp)
            try (with_reducible rfl)
          rotate_left
          try simp (maxSteps := 4000000) only [Act.put, List.setIfInBounds_toArray, List.set_cons_zero, List.set_cons_succ, List.getElem_toArray, List.getElem_cons_zero, List.getElem_cons_succ]
          refine wpAnyH_take (i := 20) (v := ?_) rfl (by kernel_rfl) (by kernel_rfl) (by kernel_rfl) (fun _ _ _ h => h) (Or.inl ⟨by kernel_rfl, ?_⟩) (by assumption) ?_
          rotate_left
          · (intro w hSw; (try dsimp only at hSw); go_simp)
            try (with_reducible rfl)
          rotate_left
          try simp (maxSteps := 4000000) only [Act.put, List.setIfInBounds_toArray, List.set_cons_zero, List.set_cons_succ, List.getElem_toArray, List.getElem_cons_zero, List.getElem_cons_succ]
          refine wpAnyH_take (i := 21) (v := ?_) rfl (by kernel_rfl) (by kernel_rfl) (by kernel_rfl) (fun _ _ _ h => h) (Or.inl ⟨by kernel_rfl, ?_⟩) (by assumption) ?_
          rotate_left
          · (intro w hSw; (try dsimp only at hSw); go_simp)
            try (with_reducible rfl)
          rotate_left
          try simp (maxSteps := 4000000) only [Act.put, List.setIfInBounds_toArray, List.set_cons_zero, List.set_cons_succ, List.getElem_toArray, List.getElem_cons_zero, List.getElem_cons_succ]
          refine wpAnyH_take (i := 22) (v := ?_) rfl (by kernel_rfl) (by kernel_rfl) (by kernel_rfl) (fun _ _ _ h => h) (Or.inl ⟨by kernel_rfl, ?_⟩) (by assumption) ?_
          rotate_left
          · (intro w hSw; (try dsimp only at hSw); go_simp)
            try (with_reducible rfl)
          rotate_left
          try simp (maxSteps := 4000000) only [Act.put, List.setIfInBounds_toArray, List.set_cons_zero, List.set_cons_succ, List.getElem_toArray, List.getElem_cons_zero, List.getElem_cons_succ]
          refine wpAnyH_ready (rs := [17]) (by kernel_rfl) (by simp) ?_
          refine AllReadyH.cons rfl (fun K2 hK2 => ?_) AllReadyH.nil
          go_simp
          with_reducible refine Calls.mono (held_is g v e l p c _ (by omega) (by omega) (by omega) (by omega) (by omega) (by omega)) ?_
          rintro e9 w9 ⟨rfl, hb⟩
          refine hK2.out _ _ ?_ (fun hHeld2 => ?_)
          · obtain ⟨a0, a1, a2, a3, a4, a5, b0, b1, b2, b3, b4, b5, jb, js, jw⟩ := hHeld
            exact ⟨(hb.cell (p := ⟨sb, 0, none⟩) js).trans a0, (hb.cell (p := ⟨sb, 1, none⟩) js).trans a1, (hb.cell (p := ⟨sb, 2, none⟩) js).trans a2, (hb.cell (p := ⟨sb, 3, none⟩) js).trans a3, (hb.cell (p := ⟨sb, 4, none⟩) js).trans a4, (hb.cell (p := ⟨sb, 5, none⟩) js).trans a5, (hb.cell (p := ⟨wb, 0, none⟩) jw).trans b0, (hb.cell (p := ⟨wb, 1, none⟩) jw).trans b1, (hb.cell (p := ⟨wb, 2, none⟩) jw).trans b2, (hb.cell (p := ⟨wb, 3, none⟩) jw).trans b3, (hb.cell (p := ⟨wb, 4, none⟩) jw).trans b4, (hb.cell (p := ⟨wb, 5, none⟩) jw).trans b5, Lib.hid (thn jb.out hb), Nat.lt_of_lt_of_le js hb.size, Nat.lt_of_lt_of_le jw hb.size⟩
          clear hb
          clear hK2 K2 hHeld
          have hHeld := hHeld2
          clear hHeld2
          try simp (maxSteps := 4000000) only [Act.put, List.setIfInBounds_toArray, List.set_cons_zero, List.set_cons_succ]
          refine wpAnyH_take (i := 23) (v := ?_) rfl (by kernel_rfl) (by kernel_rfl) (by kernel_rfl) (fun _ _ _ h => h) (Or.inl ⟨by kernel_rfl, ?_⟩) (by assumption) ?_
          rotate_left
          · (intro w hSw; (try dsimp only at hSw); go_simp)
            try (with_reducible rfl)
          rotate_left
          try simp (maxSteps := 4000000) only [Act.put, List.setIfInBounds_toArray, List.set_cons_zero, List.set_cons_succ, List.getElem_toArray, List.getElem_cons_zero, List.getElem_cons_succ]
          refine wpAnyH_take (i := 24) (v := ?_) rfl (by kernel_rfl) (by kernel_rfl) (by kernel_rfl) (fun _ _ _ h => h) (Or.inl ⟨by kernel_rfl, ?_⟩) (by assumption) ?_
          rotate_left
          · (intro w hSw; (try dsimp only at hSw); go_simp)
            try (with_reducible rfl)
          rotate_left
          try simp (maxSteps := 4000000) only [Act.put, List.setIfInBounds_toArray, List.set_cons_zero, List.set_cons_succ, List.getElem_toArray, List.getElem_cons_zero, List.getElem_cons_succ]
          refine wpAnyH_done (by kernel_rfl) ?_ _
          have hw9 : IntKind.i64.wrap (v - e) = v - e := by first | (rw [IntKind.wrap_i64]; omega) | (unfold IntKind.wrap; simp; omega) | go_num
          have hw8 : (v - e != IntKind.i64.wrap (v - e)) = false := by rw [hw9]; simp
          go_wp2_with fail
          all_goals first
            | exact ⟨⟨k + 1, g, v, e, l, p, c, zs, b, by omega, by go_num, rfl, HB2, Lib.hid (by subst hwk; exact HN2.out.below hHeld.2.2.2.2.2.2.2.2.2.2.2.2.1.out)⟩, by simp [intOf]; omega⟩
            | (exfalso; rename_i hbad; rw [hw8] at hbad; exact absurd hbad (by decide))
    · obtain rfl : k = n1 := by omega
      have HBW := Lib.hid HN.out.2.2.2.2.2
      have hB4 := HN.out.2.2.2.2.1.2.2.2
      have hstop : ¬ ((k : Int) < len0) ∨ ((k : Int) < len0 ∧ ¬ ((k : Int) < 40)) := by omega
      have T2 : Hid (PowTab wr) := Lib.hid (T.out.later (by rw [HB0.out]; exact HBW.out))
      clear HN HB
      rcases hstop with hs | ⟨hs, hs2⟩
      all_goals
        go_wp2_with fail
        refine (s39awake _ T2.out).mono ?_
        rintro e1 w5 ⟨rfl, hb⟩
        have HB5 : Hid (Below w.heap.size w w5) := Lib.hid (by rw [HB0.out]; exact HBW.out.trans (hb.mono hB4))
        clear hb
        go_wp2
        go_ret
        exact ⟨rfl, HB5.out⟩
end Go.Proofs.YtjblgamngnnccaaDoor
