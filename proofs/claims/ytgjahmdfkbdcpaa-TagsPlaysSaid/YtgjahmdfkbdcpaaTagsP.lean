/- The walk of TagsPlays. -/
import Derived.Test.YtgjahmdfkbdcpaaTagsC
import Derived.Test.YtgjahmdfkbdcpaaRecs
import Derived.Deep.RegionHeld3
import Derived.Laws.StructEq
namespace Go.Proofs.Ytgjahmdfkbdcpaa
open Go.RowKit
set_option linter.unusedVariables false
set_option linter.unusedSimpArgs false

def rowZ : Array Value := Array.replicate 64 (.int .i64 0)
theorem rowInfo : (Try.prog.info? 25).map (fun i => (i.zero, i.size)) = some (some (.agg rowZ), 64) := by kernel_rfl
theorem rowBuilt : Try.prog.built 25 ((#[] : Array (Nat × Value)).toList) = some rowZ := by kernel_rfl
theorem rowOne : rowZ.all (·.oneCell') = true := by kernel_rfl
theorem rowSize : rowZ.size = 64 := by simp [rowZ]
theorem rowAt (i : Nat) (h : i < 64) : rowZ[i]? = some (.int .i64 0) := by simp [rowZ, h]
theorem cntInfo2 : (Try.prog.info? 28).map (fun i => (i.zero, i.size)) = some (some (.agg cntZ), 16) := by kernel_rfl
theorem cntBuilt : Try.prog.built 28 ((#[] : Array (Nat × Value)).toList) = some cntZ := by kernel_rfl
theorem cntOne : cntZ.all (·.oneCell') = true := by kernel_rfl
theorem cntSize : cntZ.size = 16 := rfl
theorem cntZAt (k : Nat) (hk : k < 16) : cntZ[k]? = some (.int .i64 0) := by
  rw [show cntZ = Array.replicate 16 (.int .i64 0) from rfl]; simp [hk]

/-- The tags and the row of ints say the same. -/
def StT (p b : Nat) (W : World) (f : Nat → Nat) : Prop := TagIs p W f ∧ RowI b 64 W f ∧ (∀ y, 64 ≤ y → f y = 0) ∧ p < b
theorem StT.below {p b : Nat} {W W' : World} {f : Nat → Nat} (h : StT p b W f) (hb : Below W.heap.size W W') : StT p b W' f := ⟨h.1.below hb, h.2.1.below hb, h.2.2⟩
theorem StT.drew {p b : Nat} {W : World} {f : Nat → Nat} (h : StT p b W f) (q : Nat) : StT p b (W.drewN q) f := h.below (below_drewN (Below.refl _ _) q)
theorem stt_new {w v1 : World} {Z : Array Value} {T : TypeId} (h : TagIs w.heap.size v1 (fun _ => 0)) (hZ : ∀ i, i < 64 → Z[i]? = some (.int .i64 0)) :
    StT w.heap.size v1.heap.size (v1.alloc (.cells Z T)) (fun _ => 0) := by
  refine ⟨h.below (alc0 _ _), ⟨by simp, fun i hi => ⟨?_, by simp⟩⟩, fun _ _ => rfl, h.1⟩
  rw [World.cell?_alloc_mark]; exact hZ i hi
theorem StT.set_ {f : Nat → Nat} {g k v : Nat} (h : ∀ y, 64 ≤ y → f y = 0) (hg : g + k ≤ 64) : ∀ y, 64 ≤ y → setF f g k v y = 0 := fun y hy => by
  unfold setF; rw [if_neg (by omega)]; exact h y hy
theorem TagIs.far {p b o : Nat} {W : World} {f : Nat → Nat} {v : Value} (h : TagIs p W f) (hb : p ≠ b) : TagIs p (W.setCell ⟨b, o, none⟩ v) f :=
  h.keep (by simp [World.setCell]) (Below.heap_setCell _ _ _ _ (by simpa using hb))
theorem RowI.far {r K b o : Nat} {W : World} {c : Nat → Nat} {v : Value} (h : RowI r K W c) (hb : r ≠ b) : RowI r K (W.setCell ⟨b, o, none⟩ v) c :=
  h.keep (by simp [World.setCell]) (Below.heap_setCell _ _ _ _ (by simpa using hb))
theorem cntF_zeros {f : Nat → Nat} {k n : Nat} (h : ∀ y, 64 ≤ y → f y = 0) : cntF f k (64 + n) = cntF f k 64 + if k = 0 then n else 0 := by
  induction n with
  | zero => simp
  | succ n ih =>
    rw [show 64 + (n + 1) = 64 + n + 1 by omega, cntF, ih, h _ (by omega)]
    by_cases e : k = 0
    · subst e; simp; omega
    · rw [if_neg e, if_neg e, if_neg (fun q => e q.symm)]
theorem cntL_lit (c : Nat → Nat) : (cntL c).toArray = #[.int .i64 (c 0 : Int), .int .i64 (c 1 : Int), .int .i64 (c 2 : Int), .int .i64 (c 3 : Int), .int .i64 (c 4 : Int), .int .i64 (c 5 : Int), .int .i64 (c 6 : Int), .int .i64 (c 7 : Int), .int .i64 (c 8 : Int), .int .i64 (c 9 : Int), .int .i64 (c 10 : Int), .int .i64 (c 11 : Int), .int .i64 (c 12 : Int), .int .i64 (c 13 : Int), .int .i64 (c 14 : Int), .int .i64 (c 15 : Int)] := rfl
theorem cnt_items (c : Nat → Nat) (W : World) : ∀ is : List Nat, (∀ j ∈ is, j < 16) → (Op.eqItems 9999 3 1 (cntL c).toArray (cntL c).toArray is).run Try.prog W = .ok true W
  | [], _ => by simp [Op.eqItems]
  | j :: is, h => by
    have hj : j < 16 := h j (by simp)
    have hv : (cntL c).toArray[j * 1]? = some (.int .i64 (c j : Int)) := by
      rw [Nat.mul_one, List.getElem?_toArray, cntL, List.getElem?_map, List.getElem?_range hj]; rfl
    have hp := run_part_plain W (P := Try.prog) (e := 3) (by kernel_rfl) hv
    have ih := cnt_items c W is (fun k hk => h k (by simp [hk]))
    simp only [Op.eqItems, Sem.run_bind, hp, Result.andThen_ok]
    rw [show (9999 : Nat) = 9998 + 1 from rfl, run_equalIn_int W 9998 3 .i64 .i64 _ _ Try.underlying3]
    simp only [Result.andThen_ok, beq_self_eq_true, Bool.not_true, Bool.false_eq_true, if_false]
    exact ih
theorem cnt_eq (c : Nat → Nat) (W : World) : (Op.equalIn 10000 28 (.agg (cntL c).toArray) (.agg (cntL c).toArray)).run Try.prog W = .ok true W := by
  obtain ⟨i, hi⟩ := info_of_underlying Try.underlying3
  rw [show (10000 : Nat) = 9999 + 1 from rfl, run_equalIn_array W 9999 _ _ Try.underlying28 hi, show Try.prog.cellsOf 3 = 1 from by kernel_rfl]
  exact cnt_items c W _ (fun j hj => List.mem_range.1 hj)
theorem cntL_same {c d : Nat → Nat} (h : ∀ k, k < 16 → c k = d k) : cntL c = cntL d := by
  unfold cntL
  exact List.map_congr_left fun k hk => by rw [h k (List.mem_range.1 hk)]

set_option maxRecDepth 8000 in
set_option maxHeartbeats 4000000 in
theorem walkTagsPlays (a0 : Option Addr) (len0 cap0 : Nat) (z0 : List Int) (w : World) (w0 : IsRecs 3 w a0 len0 cap0 z0) :
    Calls Try.prog 3 #[.slice a0 len0 cap0] w fun e w' => e = .returned (.bool true) ∧ Below w.heap.size w w' := by
  have HI := Lib.hid (w0.recs (by decide)); clear w0
  obtain ⟨zv, zi⟩ := zero_of_info rowInfo
  have zb := fun W : World => run_build (P := Try.prog) W 25 #[] rowZ rowBuilt
  have zs1 := fun W : World => run_storeAt_new (P := Try.prog) W 25 rowZ rowZ (by rw [rowSize]; exact zi) rfl rowOne
  have zs2 := fun W : World => run_storeCells_new (P := Try.prog) W 25 rowZ rowZ (by rw [rowSize]; exact zi) rfl rowOne
  have hZs := rowSize
  have HZ := Lib.hid rowAt
  generalize rowZ = Z at *
  obtain ⟨m, hm1, hm2, hm3⟩ : ∃ m : Nat, m ≤ len0 ∧ m ≤ 60 ∧ (m < len0 → m = 60) := ⟨min len0 60, by omega, by omega, by omega⟩
  go_enter Try.func3, Try.ntmps3
  go_wp2_with fail
  refine (tnew_any _).mono ?_
  rintro e v1 ⟨rfl, hp, hb1⟩
  go_wp2_with fail
  have HS0 := Lib.hid (stt_new (T := 25) hp HZ.out)
  have hbx := alc hb1 (.cells Z 25)
  have hlb : w.heap.size < v1.heap.size := hp.1
  obtain ⟨b, hb⟩ : ∃ b, v1.heap.size = b := ⟨_, rfl⟩
  rw [hb] at HS0 hlb ⊢
  obtain ⟨p, hpp⟩ : ∃ p, w.heap.size = p := ⟨_, rfl⟩
  rw [hpp] at HS0 hlb hbx ⊢
  clear hp hb1 HZ zv zi zb zs1 zs2 hZs
  go_loopw [5] (fun v5 wr => ∃ (i : Nat) (f : Nat → Nat), i ≤ m ∧ v5 = .int .i64 i ∧ Hid (StT p b wr f) ∧ Hid (Below p w wr)) (fun i _ => m - (intOf i).toNat)
  case atStart => exact ⟨0, _, by omega, rfl, HS0, Lib.hid hbx⟩
  case round =>
    clear HS0 hbx hb
    obtain ⟨i, f, him, rfl, HS, HB⟩ := hrel
    by_cases hlt : i < m
    · obtain ⟨_, _, hin⟩ := HI.out.below (by rw [hpp]; exact HB.out)
      rcases hin with h0 | ⟨rb, off, rfl, hrl, hrm, hrc⟩
      · exfalso; omega
      · have r0 := hrc (i * 3) (by omega)
        have r1 := hrc (i * 3 + 1) (by omega)
        have r2 := hrc (i * 3 + 2) (by omega)
        rw [← Nat.add_assoc] at r1 r2
        clear hrc
        have HIx := HI
        clear HI
        generalize z0.getD (i * 3) 0 = A0 at *
        generalize z0.getD (i * 3 + 1) 0 = A1 at *
        generalize z0.getD (i * 3 + 2) 0 = A2 at *
        have f0 := and63 A0
        have f1 := and15 A1
        have f2 := and31 A2
        obtain ⟨g, hg⟩ : ∃ g : Nat, A0 % 64 = g := ⟨(A0 % 64).toNat, by omega⟩
        obtain ⟨N, hN⟩ : ∃ N : Nat, A1 % 16 = N := ⟨(A1 % 16).toNat, by omega⟩
        obtain ⟨X, hX⟩ : ∃ X : Nat, A2 % 32 = X := ⟨(A2 % 32).toNat, by omega⟩
        have hg2 : g < 64 := by omega
        have hN2 : N < 16 := by omega
        have hX2 : X < 32 := by omega
        rw [hg] at f0; rw [hN] at f1; rw [hX] at f2
        clear hg hN hX
        have t1 : (i : Int) < len0 := by omega
        have t2 : (i : Int) < 60 := by omega
        obtain ⟨K, hK⟩ : ∃ K : Int, (K = (N : Int) - 1 ∧ (N : Int) - 1 ≤ 64 - g) ∨ (K = 64 - g ∧ 64 - (g : Int) < (N : Int) - 1) := by
          by_cases h : (N : Int) - 1 ≤ 64 - g
          · exact ⟨_, .inl ⟨rfl, h⟩⟩
          · exact ⟨_, .inr ⟨rfl, by omega⟩⟩
        have HK := Lib.hid hK; clear hK
        clear hm3
        go_upto_region 5 with (fail)
        go_cut [6, 7, 8] (fun v6 v7 v8 wx => v6 = .int .i64 (g : Int) ∧ v7 = .int .i64 ((N : Int) - 1) ∧ v8 = .int .i64 ((X : Int) - 4) ∧ Hid (StT p b wx f) ∧ Hid (Below p w wx))
        case first =>
          go_quiet (fail)
          go_wp2
          go_meet
          exact ⟨rfl, rfl, rfl, Lib.hid (HS.out.drew _), Lib.hid (below_drewN HB.out _)⟩
        case rest =>
          obtain ⟨rfl, rfl, rfl, HSc, HBc⟩ := hcut
          clear HS HB r0 r1 r2 f0 f1 f2 hrl
          obtain ⟨wy, rfl⟩ : ∃ wy : World, wy = wc := ⟨_, rfl⟩
          go_upto_region 6 with (fail)
          go_cut [9] (fun v9 wx => v9 = .int .i64 K ∧ wy = wx)
          case first =>
            rcases HK.out with ⟨rfl, h⟩ | ⟨rfl, h⟩
            all_goals
              go_wp2
              go_meet
              exact ⟨rfl, rfl⟩
          case rest =>
            obtain ⟨rfl, rfl⟩ := hcut
            have hKc : (K < 1) ∨ (1 ≤ K ∧ (X : Int) - 4 < 0) ∨ (1 ≤ K ∧ 0 ≤ (X : Int) - 4 ∧ ¬ (X : Int) - 4 ≤ 15) ∨ (1 ≤ K ∧ 0 ≤ (X : Int) - 4 ∧ (X : Int) - 4 ≤ 15) := by omega
            have hKb : K ≤ 14 ∧ K ≤ 64 - g := by have := HK.out; omega
            rcases hKc with hk | ⟨hk, hx⟩ | ⟨hk, hx, hx2⟩ | ⟨hk, hx, hx2⟩
            · have HNO := Lib.hid (tset_no p g K (X - 4) wy (fun h => by have := h.1; unfold thereT at this; omega))
              have n1 : ¬ (1 : Int) ≤ K := by omega
              have n0 : ¬ (0 : Int) < K := by omega
              go_wp2_with fail
              refine HNO.out.mono ?_
              rintro e w' ⟨rfl, rfl⟩
              go_wp2_with fail
              go_loopw [11] (fun v11 wx => v11 = .int .i64 0 ∧ wy = wx) (fun _ _ => 0)
              case atStart => exact ⟨rfl, rfl⟩
              case round =>
                obtain ⟨rfl, rfl⟩ := hrel
                go_wp2_with fail
                go_roundw
                case rel => exact ⟨i + 1, f, by omega, by go_num, HSc, HBc⟩
                case measure => simp [intOf]; omega
            all_goals (obtain ⟨k, rfl⟩ : ∃ k : Nat, K = k := ⟨K.toNat, by omega⟩)
            rotate_left 2
            · obtain ⟨V, hV⟩ : ∃ V : Nat, (X : Int) - 4 = V := ⟨((X : Int) - 4).toNat, by omega⟩
              rw [hV] at hx hx2 ⊢
              have hk1 : 1 ≤ k := by omega
              have hgk : g + k ≤ 64 := by omega
              have hV2 : V < 16 := by omega
              clear hV
              have HYES := Lib.hid (tset_yes p g k V f wy HSc.out.1 (by omega) hk1 hV2)
              have n0 : (0 : Int) < (k : Int) := by omega
              go_wp2_with fail
              refine HYES.out.mono ?_
              rintro e w2 ⟨rfl, ht2, hb2, hs2, ho2⟩
              have HT2 := Lib.hid ht2
              have HR2 : Hid (RowI b 64 w2 (setF f g 0 V)) := Lib.hid (by
                rw [show setF f g 0 V = f by funext y; unfold setF; rw [if_neg (by omega)]]
                exact HSc.out.2.1.keep (Nat.le_of_eq hs2.symm) (ho2 b HSc.out.2.2.2))
              have HB2 := Lib.hid (HBc.out.trans hb2)
              clear ht2 hb2 hs2 ho2 HYES
              go_wp2_with fail
              go_loopw [11] (fun v11 wx => ∃ j : Nat, j ≤ k ∧ v11 = .int .i64 (j : Nat) ∧ Hid (TagIs p wx (setF f g k V)) ∧ Hid (RowI b 64 wx (setF f g j V)) ∧ Hid (Below p w wx)) (fun v11 _ => k - (intOf v11).toNat)
              case atStart => exact ⟨0, by omega, rfl, HT2, HR2, HB2⟩
              case round =>
                clear HT2 HR2 HB2
                obtain ⟨j, hj, rfl, HT, HR, HBx⟩ := hrel
                by_cases hjk : j < k
                · obtain ⟨y, hy⟩ : ∃ y, g + j = y := ⟨_, rfl⟩
                  have hyc : (g : Int) + j = (y : Int) := by omega
                  have y2 : y < 64 := by omega
                  obtain ⟨k1, k2⟩ := HR.out.2 y y2
                  have HUP := Lib.hid (HR.out.up (c' := setF f g (j + 1) V) (v := (V : Int)) y2 (by unfold setF; rw [if_pos (by omega)]) (fun z hz => by unfold setF; split <;> split <;> first | rfl | omega))
                  have q0 : (j : Int) < (k : Int) := by omega
                  have q1 : (0 : Int) ≤ (y : Int) := by omega
                  have q2 : (y : Int) < 64 := by omega
                  have q3 : (y : Int).toNat = y := Int.toNat_natCast y
                  clear hy
                  go_wp2_with fail
                  go_roundw
                  case rel => exact ⟨j + 1, by omega, by go_num, Lib.hid (HT.out.far (Nat.ne_of_lt hlb)), HUP, Lib.hid (HBx.out.setCell (Nat.le_of_lt hlb) _)⟩
                  case measure => simp [intOf]; omega
                · obtain rfl : j = k := by omega
                  have q0 : ¬ (j : Int) < (j : Int) := by omega
                  have HA := Lib.hid (tall_in p g j V _ wr HT.out (by omega) hk1)
                  go_wp2_with fail
                  refine HA.out.mono ?_
                  rintro e w3 ⟨rfl, q, hw3⟩
                  rw [allR_same]
                  go_wp2_with fail
                  go_roundw
                  case rel => exact ⟨i + 1, setF f g j V, by omega, by go_num, Lib.hid (by first | exact StT.drew ⟨HT.out, HR.out, StT.set_ HSc.out.2.2.1 hgk, HSc.out.2.2.2⟩ q | (rw [hw3]; exact StT.drew ⟨HT.out, HR.out, StT.set_ HSc.out.2.2.1 hgk, HSc.out.2.2.2⟩ q)), Lib.hid (by first | exact below_drewN HBx.out q | (rw [hw3]; exact below_drewN HBx.out q))⟩
                  case measure => simp [intOf]; omega
            all_goals
              have HNO := Lib.hid (tset_no p g k (X - 4) wy (fun h => by have := h.2; omega))
              have n0 : (0 : Int) < (k : Int) := by omega
              obtain ⟨B, hB⟩ : ∃ B, allR f g ((X : Int) - 4) k = B := ⟨_, rfl⟩
              have HA := Lib.hid (tall_in p g k ((X : Int) - 4) f wy HSc.out.1 (by omega) (by omega))
              rw [hB] at HA
              clear hB
              go_wp2_with fail
              refine HNO.out.mono ?_
              rintro e w' ⟨rfl, rfl⟩
              go_wp2_with fail
              go_loopw [11] (fun v11 wx => v11 = .int .i64 0 ∧ wy = wx) (fun _ _ => 0)
              case atStart => exact ⟨rfl, rfl⟩
              case round =>
                obtain ⟨rfl, rfl⟩ := hrel
                cases B
                all_goals
                  go_wp2_with fail
                  refine HA.out.mono ?_
                  rintro e w3 ⟨rfl, q, hw3⟩
                  go_wp2_with fail
                  go_roundw
                  case rel => exact ⟨i + 1, f, by omega, by go_num, Lib.hid (by first | exact HSc.out.drew q | (rw [hw3]; exact HSc.out.drew q)), Lib.hid (by first | exact below_drewN HBc.out q | (rw [hw3]; exact below_drewN HBc.out q))⟩
                  case measure => simp [intOf]; omega
    · obtain rfl : i = m := by omega
      have hend : ¬ (i : Int) < len0 ∨ ((i : Int) < len0 ∧ ¬ (i : Int) < 60) := by omega
      obtain ⟨v3, hv3⟩ : ∃ v3, wr = v3 := ⟨_, rfl⟩
      subst hv3
      have hlw := HB.out.size
      obtain ⟨d, hd⟩ : ∃ d, wr.heap.size = d := ⟨_, rfl⟩
      have hbd : b < d := by have := HS.out.2.1.1; omega
      have HS1 : Hid (StT p b (wr.alloc (.cells cntZ 28)) f) := Lib.hid (HS.out.below (alc0 _ _))
      have HB1 : Hid (Below p w (wr.alloc (.cells cntZ 28))) := Lib.hid (HB.out.alloc (by rw [hd]; omega) _)
      have HC1 : Hid (RowI d 16 (wr.alloc (.cells cntZ 28)) (fun v => cntF f v 0)) := Lib.hid (by
        rw [← hd]
        refine ⟨by simp, fun k hk => ⟨?_, by simp⟩⟩
        rw [World.cell?_alloc_mark]; exact cntZAt k hk)
      unfold cntZ at HS1 HC1 HB1
      rcases hend with hend | ⟨hend1, hend⟩
      all_goals
        as_aux_lemma =>
          go_wp2_with fail
          go_loopw [13] (fun v13 wx => ∃ G : Nat, G ≤ 64 ∧ v13 = .int .i64 (G : Nat) ∧ Hid (StT p b wx f) ∧ Hid (RowI d 16 wx (fun v => cntF f v G)) ∧ Hid (Below p w wx)) (fun v13 _ => 64 - (intOf v13).toNat)
          case atStart => exact ⟨0, by omega, rfl, HS1, HC1, HB1⟩
          case round =>
            clear HS1 HC1 HB1
            obtain ⟨G, hG, rfl, HSg, HCg, HBg⟩ := hrel
            by_cases hg : G < 64
            · obtain ⟨k1, k2⟩ := HSg.out.2.1.2 G hg
              have hfl := HSg.out.1.2.1 G
              have HGet := Lib.hid (fun n => tget_in p G (G / 2) f (wr.drewN n) (HSg.out.drew n).1 (by omega) (by omega))
              have HN : Hid (∀ v, cntF f v (G + 1) = cntF f v G + if f G = v then 1 else 0) := Lib.hid (fun v => rfl)
              obtain ⟨a, ha⟩ : ∃ a, f G = a := ⟨_, rfl⟩
              rw [ha] at k1 hfl HGet HN
              clear ha
              obtain ⟨c1, c2⟩ := HCg.out.2 a hfl
              dsimp only at c1
              obtain ⟨N, hN⟩ : ∃ N, cntF f a G = N := ⟨_, rfl⟩
              have hNl : N ≤ 64 := by rw [← hN]; have := cntF_le f a G; omega
              rw [hN] at c1
              have HUP := Lib.hid (HCg.out.up (c' := fun v => cntF f v (G + 1)) (v := (N : Int) + 1) hfl (by rw [HN.out, hN, if_pos rfl]; omega) (fun k hk => by rw [HN.out, if_neg (fun e => hk e.symm)]; rfl))
              clear hN
              have q1 : (0 : Int) ≤ (G : Int) := by omega
              have q2 : (G : Int) < 64 := by omega
              have q3 : (G : Int).toNat = G := Int.toNat_natCast G
              have a1 : (0 : Int) ≤ (a : Int) := by omega
              have a2 : (a : Int) < 16 := by omega
              have a3 : (a : Int).toNat = a := Int.toNat_natCast a
              go_wp2_with fail
              go_quiet (exact Calls.quiet_of (HGet.out _))
              go_wp2_with fail
              go_roundw
              case rel =>
                have dr : ∀ (W : World) (q : Nat), Below W.heap.size W (W.drewN q) := fun W q => below_drewN (Below.refl _ _) q
                refine ⟨G + 1, by omega, by go_num, Lib.hid ?_, Lib.hid ?_, Lib.hid ?_⟩
                · first
                  | exact StT.drew ⟨HSg.out.1.far (show p ≠ d by omega), HSg.out.2.1.far (show b ≠ d by omega), HSg.out.2.2⟩ _
                  | exact ⟨(HSg.out.drew _).1.far (show p ≠ d by omega), (HSg.out.drew _).2.1.far (show b ≠ d by omega), HSg.out.2.2⟩
                · exact HUP.out.below (dr _ _)
                · exact below_drewN (HBg.out.setCell (show p ≤ d by omega) _) _
              case measure => simp [intOf]; omega
            · obtain rfl : G = 64 := by omega
              obtain ⟨c1, c2⟩ := HCg.out.2 0 (by omega)
              dsimp only at c1
              obtain ⟨N, hN⟩ : ∃ N, cntF f 0 64 = N := ⟨_, rfl⟩
              have hNl : N ≤ 64 := by rw [← hN]; exact cntF_le f 0 64
              have HUP : Hid (RowI d 16 (wr.setCell ⟨d, 0, none⟩ (.int .i64 ((N : Int) + 16320))) (fun v => cntF f v 16384)) := Lib.hid (HCg.out.up (v := (N : Int) + 16320) (by omega) (by
                rw [show (16384 : Nat) = 64 + 16320 from rfl, cntF_zeros HSg.out.2.2.1, hN, if_pos rfl]; omega) (fun k hk => by
                show cntF f k 16384 = cntF f k 64
                rw [show (16384 : Nat) = 64 + 16320 from rfl, cntF_zeros HSg.out.2.2.1, if_neg hk]; rfl))
              rw [hN] at c1
              clear hN
              have HT : Hid (TagIs p (wr.setCell ⟨d, 0, none⟩ (.int .i64 ((N : Int) + 16320))) f) := Lib.hid (HSg.out.1.far (show p ≠ d by omega))
              have HBe : Hid (Below p w (wr.setCell ⟨d, 0, none⟩ (.int .i64 ((N : Int) + 16320)))) := Lib.hid (HBg.out.setCell (show p ≤ d by omega) _)
              go_wp2_with fail
              obtain ⟨c, hc⟩ : ∃ c : Nat → Nat, (fun v => cntF f v 16384) = c := ⟨_, rfl⟩
              have HC := Lib.hid (fun (W : World) (H : TagIs p W f) => tcount p f W H)
              rw [hc] at HUP HC
              have hpw : w.heap.size ≤ p := Nat.le_of_eq hpp
              refine wp_region_held_drew (S := fun w' => RowI d 16 w' c ∧ TagIs p w' f ∧ Below w.heap.size w w') (by kernel_rfl) ?_ (fun hHeld => ?_)
              · rw [hpp]; exact ⟨HUP.out.below (Below.refl _ _).drew, HT.out.below (Below.refl _ _).drew, HBe.out.drew⟩
              refine wpAnyH_ready (rs := [0]) (by kernel_rfl) (by simp) ?_
              refine AllReadyH.cons rfl (fun K2 hK2 => ?_) AllReadyH.nil
              go_simp
              refine (t06awake_any _).mono ?_
              rintro e w9 ⟨rfl, hb⟩
              refine hK2.out _ _ ?_ (fun hHeld2 => ?_)
              · exact ⟨hHeld.1.below hb, hHeld.2.1.below hb, hHeld.2.2.trans (hb.mono hHeld.2.2.size)⟩
              clear hK2 K2 hHeld
              have hHeld := hHeld2
              clear hHeld2
              try simp (maxSteps := 4000000) only [Act.put, List.setIfInBounds_toArray, List.set_cons_zero, List.set_cons_succ, List.getElem_toArray, List.getElem_cons_zero, List.getElem_cons_succ]
              refine wpAnyH_take (i := 1) (v := ?_) rfl (by kernel_rfl) (by kernel_rfl) (by kernel_rfl) (fun _ _ _ h => h) (Or.inl ⟨by kernel_rfl, ?_⟩) (by assumption) ?_
              rotate_left
              · (intro w hSw; (try dsimp only at hSw); go_simp)
                try (with_reducible rfl)
              rotate_left
              try simp (maxSteps := 4000000) only [Act.put, List.setIfInBounds_toArray, List.set_cons_zero, List.set_cons_succ, List.getElem_toArray, List.getElem_cons_zero, List.getElem_cons_succ]
              refine wpAnyH_take (i := 2) (v := ?_) rfl (by kernel_rfl) (by kernel_rfl) (by kernel_rfl) (fun _ _ _ h => h) (Or.inl ⟨by kernel_rfl, ?_⟩) (by assumption) ?_
              rotate_left
              · (intro w hSw; (try dsimp only at hSw); go_simp)
                try (with_reducible rfl)
              rotate_left
              try simp (maxSteps := 4000000) only [Act.put, List.setIfInBounds_toArray, List.set_cons_zero, List.set_cons_succ, List.getElem_toArray, List.getElem_cons_zero, List.getElem_cons_succ]
              refine wpAnyH_take (i := 4) (v := .agg (cntL c).toArray) rfl (by kernel_rfl) (by kernel_rfl) (by kernel_rfl) (fun _ _ _ h => h) (yieldsIf_load_mid (by kernel_rfl) 28 (.tmp 12) rfl d 0 rfl (cntL c) _ (fun w hw => hw.1.range) Try.underlying28 rfl (by rw [cntL_len]; exact cntInfo)) (by assumption) ?_
              try simp (maxSteps := 4000000) only [Act.put, List.setIfInBounds_toArray, List.set_cons_zero, List.set_cons_succ, List.getElem_toArray, List.getElem_cons_zero, List.getElem_cons_succ]
              refine wpAnyH_ready (rs := [3]) (by kernel_rfl) (by simp) ?_
              refine AllReadyH.cons rfl (fun K2 hK2 => ?_) AllReadyH.nil
              go_simp
              refine (HC.out _ hHeld.2.1).mono ?_
              rintro e w9 ⟨rfl, hb⟩
              refine hK2.out _ _ ?_ (fun hHeld2 => ?_)
              · exact ⟨hHeld.1.below hb, hHeld.2.1.below hb, hHeld.2.2.trans (hb.mono hHeld.2.2.size)⟩
              clear hK2 K2 hHeld
              have hHeld := hHeld2
              clear hHeld2
              try simp (maxSteps := 4000000) only [Act.put, List.setIfInBounds_toArray, List.set_cons_zero, List.set_cons_succ, List.getElem_toArray, List.getElem_cons_zero, List.getElem_cons_succ]
              have HE := cnt_eq c
              generalize (cntL c).toArray = Ca at *
              refine wpAnyH_take (i := 5) (v := ?_) rfl (by kernel_rfl) (by kernel_rfl) (by kernel_rfl) (fun _ _ _ h => h) (Or.inl ⟨by kernel_rfl, ?_⟩) (by assumption) ?_
              rotate_left
              · (intro w hSw; (try dsimp only at hSw); go_simp)
                try (with_reducible rfl)
              rotate_left
              try simp (maxSteps := 4000000) only [Act.put, List.setIfInBounds_toArray, List.set_cons_zero, List.set_cons_succ, List.getElem_toArray, List.getElem_cons_zero, List.getElem_cons_succ]
              refine wpAnyH_take (i := 6) (v := ?_) rfl (by kernel_rfl) (by kernel_rfl) (by kernel_rfl) (fun _ _ _ h => h) (Or.inl ⟨by kernel_rfl, ?_⟩) (by assumption) ?_
              rotate_left
              · (intro w hSw; (try dsimp only at hSw); go_simp)
                try (with_reducible rfl)
              rotate_left
              try simp (maxSteps := 4000000) only [Act.put, List.setIfInBounds_toArray, List.set_cons_zero, List.set_cons_succ, List.getElem_toArray, List.getElem_cons_zero, List.getElem_cons_succ]
              refine wpAnyH_take (i := 7) (v := ?_) rfl (by kernel_rfl) (by kernel_rfl) (by kernel_rfl) (fun _ _ _ h => h) (Or.inl ⟨by kernel_rfl, ?_⟩) (by assumption) ?_
              rotate_left
              · (intro w hSw; (try dsimp only at hSw); go_simp)
                try (with_reducible rfl)
              rotate_left
              try simp (maxSteps := 4000000) only [Act.put, List.setIfInBounds_toArray, List.set_cons_zero, List.set_cons_succ, List.getElem_toArray, List.getElem_cons_zero, List.getElem_cons_succ]
              refine wpAnyH_done (by kernel_rfl) ?_ _
              go_wp2
              go_ret
              exact ⟨rfl, hHeld.2.2⟩
end Go.Proofs.Ytgjahmdfkbdcpaa
