/- The walk of CodeBack. -/
import Derived.Test.YtcknbbffeeldpaaCodeS
import Derived.StillTailTactics
import Derived.Deep.AppendLies
import Derived.Laws.OwnMore
namespace Go.Proofs.Ytcknbbffeeldpaa
open Go.RowKit
set_option linter.unusedVariables false
set_option linter.unusedSimpArgs false

/-- Three ints at block z. -/
def At3 (z : Nat) (W : World) (n0 n1 n2 : Int) : Prop := z < W.heap.size ∧ W.cell? ⟨z, 0, none⟩ = some (.int .i64 n0) ∧ W.cell? ⟨z, 1, none⟩ = some (.int .i64 n1) ∧ W.cell? ⟨z, 2, none⟩ = some (.int .i64 n2)
theorem At3.new (W : World) (n0 n1 n2 : Int) (T : TypeId) : At3 W.heap.size (W.alloc (.cells #[.int .i64 n0, .int .i64 n1, .int .i64 n2] T)) n0 n1 n2 := by
  refine ⟨by simp, by simp, by simp, by simp⟩
theorem At3.keep {z : Nat} {W W' : World} {n0 n1 n2 : Int} (h : At3 z W n0 n1 n2) (hs : W.heap.size ≤ W'.heap.size) (hk : W'.heap[z]? = W.heap[z]?) : At3 z W' n0 n1 n2 := by
  obtain ⟨h0, h1, h2, h3⟩ := h
  have e : ∀ o, W'.cell? ⟨z, o, none⟩ = W.cell? ⟨z, o, none⟩ := fun o => World.cell?_of_block hk
  exact ⟨Nat.lt_of_lt_of_le h0 hs, (e 0).trans h1, (e 1).trans h2, (e 2).trans h3⟩
/-- What the walk of CodeBack keeps: the capability, what was read, its three numbers, its bytes. -/
def CB (x y z g : Nat) (W : World) (b l c p t n0 n1 n2 : Int) (f : Nat → Nat) : Prop := CapAt x W b l c p t true ∧ CapAt y W b l c p t true ∧ At3 z W n0 n1 n2 ∧ RowU g 16 W f
theorem CB.below {x y z g : Nat} {W W' : World} {b l c p t n0 n1 n2 : Int} {f : Nat → Nat} (h : CB x y z g W b l c p t n0 n1 n2 f) (hb : Below W.heap.size W W') : CB x y z g W' b l c p t n0 n1 n2 f :=
  ⟨h.1.below hb, h.2.1.below hb, h.2.2.1.keep hb.size (hb.block z h.2.2.1.1), h.2.2.2.below hb⟩
theorem CB.grown {x y z g q : Nat} {W W' : World} {b l c p t n0 n1 n2 : Int} {f : Nat → Nat} (h : CB x y z g W b l c p t n0 n1 n2 f) (hg : W.grownBy W' (some q)) (hx : x ≠ q) (hy : y ≠ q) (hz : z ≠ q) (hgq : g ≠ q) : CB x y z g W' b l c p t n0 n1 n2 f :=
  have k : ∀ i, i < W.heap.size → i ≠ q → W'.heap[i]? = W.heap[i]? := fun i hi hn => hg.block i hi (fun e => hn (by injection e))
  ⟨h.1.keep hg.size (k x h.1.1 hx), h.2.1.keep hg.size (k y h.2.1.1 hy), h.2.2.1.keep hg.size (k z h.2.2.1.1 hz), h.2.2.2.keep hg.size (k g h.2.2.2.1 hgq)⟩
def u8s (l : List Nat) : List Value := l.map fun (n : Nat) => Value.int .u8 (n : Int)
def three (n : Nat) : List Nat := [n % 256, n / 256 % 256, n / 65536 % 256]
def WN (i : Nat) (T0 T1 T2 : List Nat) : List Nat := match i with
  | 0 => [197]
  | 1 => 197 :: T0
  | 2 => 197 :: (T0 ++ T1)
  | _ => 197 :: (T0 ++ T1 ++ T2)
def WL (i : Nat) (T0 T1 T2 : List Nat) : List Value := u8s (WN i T0 T1 T2)
theorem wn_all (B L D P T : Nat) : WN 3 (three B) (three L) (three D) ++ [P, T, 0, 0, 0, 0] = (List.range 16).map (codeF B L D P T) := by
  rw [show List.range 16 = [0, 1, 2, 3, 4, 5, 6, 7, 8, 9, 10, 11, 12, 13, 14, 15] from rfl]
  simp only [List.map_cons, List.map_nil, codeF_0, codeF_10, codeF_11, codeF_B _ _ _ _ _ 1 (by omega), codeF_B _ _ _ _ _ 2 (by omega), codeF_B _ _ _ _ _ 3 (by omega), codeF_L _ _ _ _ _ 4 (by omega), codeF_L _ _ _ _ _ 5 (by omega), codeF_L _ _ _ _ _ 6 (by omega), codeF_D _ _ _ _ _ 7 (by omega), codeF_D _ _ _ _ _ 8 (by omega), codeF_D _ _ _ _ _ 9 (by omega), codeF_hi _ _ _ _ _ 12 (by omega), codeF_hi _ _ _ _ _ 13 (by omega), codeF_hi _ _ _ _ _ 14 (by omega), codeF_hi _ _ _ _ _ 15 (by omega)]
  simp [WN, three]
theorem row_own {w : World} {base cap q : Nat} {B L D P T : Nat} (hq : q < w.heap.size) (h : w.ownsRow base 5 1 (.slice (some ⟨q, 0, none⟩) 16 cap) 16 (u8s (WN 3 (three B) (three L) (three D) ++ [P, T, 0, 0, 0, 0]))) :
    RowU q 16 w (codeF B L D P T) := by
  rw [wn_all] at h
  refine ⟨hq, fun i hi => ⟨?_, h.frozenAt i⟩⟩
  rw [h.cellAt i (by omega)]
  simp [u8s, hi]

/-- A number of three bytes, as the walk meets it. -/
structure Num3 (n X0 Y X1 X2 : Nat) : Prop where
  r : (n : Int).tmod 256 = X0
  r2 : (n : Int) % 256 = X0
  q : (n : Int).tdiv 256 = Y
  q2 : (n : Int) / 256 = Y
  qr : (Y : Int).tmod 256 = X1
  qr2 : (Y : Int) % 256 = X1
  h : (n : Int).tdiv 65536 = X2
  h2 : (n : Int) / 65536 = X2
  w0 : IntKind.u8.wrap (X0 : Int) = X0
  w1 : IntKind.u8.wrap (X1 : Int) = X1
  w2 : IntKind.u8.wrap (X2 : Int) = X2
  w3 : IntKind.i64.wrap (Y : Int) = Y
  w4 : IntKind.i64.wrap (X2 : Int) = X2
theorem num3 (n : Nat) (h : n < 16777216) : ∃ X0 Y X1 X2, Num3 n X0 Y X1 X2 ∧ three n = [X0, X1, X2] := by
  refine ⟨n % 256, n / 256, n / 256 % 256, n / 65536 % 256, ⟨?_, ?_, ?_, ?_, ?_, ?_, ?_, ?_, ?_, ?_, ?_, ?_, ?_⟩, rfl⟩
  · rw [Int.tmod_eq_emod_of_nonneg (by omega)]; omega
  · omega
  · rw [Int.tdiv_eq_ediv_of_nonneg (by omega)]; omega
  · omega
  · rw [Int.tmod_eq_emod_of_nonneg (by omega)]; omega
  · omega
  · rw [Int.tdiv_eq_ediv_of_nonneg (by omega)]; omega
  · omega
  · rw [IntKind.wrap_u8]; omega
  · rw [IntKind.wrap_u8]; omega
  · rw [IntKind.wrap_u8]; omega
  · exact IntWalk.i64_in _ (by omega)
  · exact IntWalk.i64_in _ (by omega)

theorem CB.lts {x y z g : Nat} {W : World} {b l c p t n0 n1 n2 : Int} {f : Nat → Nat} (h : CB x y z g W b l c p t n0 n1 n2 f) : x < W.heap.size ∧ y < W.heap.size ∧ z < W.heap.size ∧ g < W.heap.size := ⟨h.1.1, h.2.1.1, h.2.2.1.1, h.2.2.2.1⟩
theorem cells3_new (W : World) (a b c : Value) (T : TypeId) : ∀ j u, [a, b, c][j]? = some u → (W.alloc (.cells #[a, b, c] T)).cell? ((⟨W.heap.size, 0, none⟩ : Addr).add j) = some u := by
  intro j u hu
  have hadd : (⟨W.heap.size, 0, none⟩ : Addr).add j = ⟨W.heap.size, j, none⟩ := by unfold Addr.add; split <;> simp_all
  rw [hadd, World.cell?_alloc_mark]
  simpa using hu
theorem cells6_new (W : World) (a b c d e f : Value) (T : TypeId) : ∀ j u, [a, b, c, d, e, f][j]? = some u → (W.alloc (.cells #[a, b, c, d, e, f] T)).cell? ((⟨W.heap.size, 0, none⟩ : Addr).add j) = some u := by
  intro j u hu
  have hadd : (⟨W.heap.size, 0, none⟩ : Addr).add j = ⟨W.heap.size, j, none⟩ := by unfold Addr.add; split <;> simp_all
  rw [hadd, World.cell?_alloc_mark]
  simpa using hu
theorem capOk_nat {b l c p t : Int} (h : capOkB b l c p t = true) : ∃ B L D P T : Nat, b = B ∧ l = L ∧ c - B + 1048576 = D ∧ p = P ∧ t = T ∧ B < 16777216 ∧ L < 16777216 ∧ D < 16777216 ∧ P < 256 ∧ T < 256 := by
  obtain ⟨_, hb, hc, hp, ht⟩ := ok_base (v := true) (by rw [h]; rfl : (true && capOkB b l c p t) = true)
  refine ⟨b.toNat, l.toNat, (c - b + 1048576).toNat, p.toNat, t.toNat, ?_⟩
  omega
set_option maxRecDepth 8000 in
set_option maxHeartbeats 8000000 in
theorem walkCodeBackX (a0_0 a0_1 a0_2 a0_3 a0_4 : Int) (a0_5 : Bool) (a1 : Int) (w : World) :
    Calls Try.prog 5 #[.agg #[.int .i64 a0_0, .int .i64 a0_1, .int .i64 a0_2, .int .i64 a0_3, .int .i64 a0_4, .bool a0_5], .int .i64 a1] w fun e w' => e = .returned (.bool true) ∧ Below w.heap.size w w' := by
  obtain ⟨i0, hi, hz0, hz1, hz2⟩ := info_parts infoU8
  have hmk := mk16
  go_enter Try.func5, Try.ntmps5
  go_wp2_with fail
  refine (rcap_any _ _ _ _ _ _ _ _).mono ?_
  rintro e w1 ⟨b, l, c, p, t, v, rfl, hbd, hb1⟩
  go_upto_region 2 with (fail)
  obtain ⟨W1, hW1⟩ : ∃ W1, w1.alloc (.cells #[.int .i64 b, .int .i64 l, .int .i64 c, .int .i64 p, .int .i64 t, .bool v] 23) = W1 := ⟨_, rfl⟩
  have HX := Lib.hid (CapAt.new w1 b l c p t v 23)
  have HB := Lib.hid (alc (thn (alc0 _ _) hb1) (.cells #[.int .i64 b, .int .i64 l, .int .i64 c, .int .i64 p, .int .i64 t, .bool v] 23))
  rw [hW1] at HX HB ⊢
  obtain ⟨x, hx⟩ : ∃ x, w1.heap.size = x := ⟨_, rfl⟩
  rw [hx] at HX ⊢
  clear hW1 hx hb1 hbd
  obtain ⟨_, k0, k1, k2, k3, k4, k5, kf⟩ := HX.out
  cases hv : (v && capOkB b l c p t)
  · have HV := Lib.hid hv
    clear hv
    as_aux_lemma =>
      go_wp2_with fail
      refine (cbytes_no _ _ _ _ _ _ _ HV.out).mono ?_
      rintro e w2 ⟨g, rfl, hg, hr, hb⟩
      have HR := Lib.hid hr
      have HX2 := Lib.hid (HX.out.below hb)
      have HB2 := Lib.hid (thn HB.out hb)
      clear hr hb k0 k1 k2 k3 k4 k5 kf HX HB
      go_wp2_with fail
      refine (cread_not g 16 _ _ HR.out (fun _ => by omega) (by omega) rfl).mono ?_
      rintro e w3 ⟨rfl, hb⟩
      have HR3 := Lib.hid (HR.out.below hb)
      have HX3 := Lib.hid (HX2.out.below hb)
      have HB3 := Lib.hid (thn HB2.out hb)
      clear hb HX2 HB2 HR
      go_upto_region 4 with (fail)
      obtain ⟨W4, hW4⟩ : ∃ W4, w3.alloc (.cells #[.int .i64 0, .int .i64 0, .int .i64 0, .int .i64 0, .int .i64 0, .bool false] 23) = W4 := ⟨_, rfl⟩
      have HY := Lib.hid (CapAt.new w3 0 0 0 0 0 false 23)
      have HX4 := Lib.hid (HX3.out.below (alc0 w3 (.cells #[.int .i64 0, .int .i64 0, .int .i64 0, .int .i64 0, .int .i64 0, .bool false] 23)))
      have HR4 := Lib.hid (HR3.out.below (alc0 w3 (.cells #[.int .i64 0, .int .i64 0, .int .i64 0, .int .i64 0, .int .i64 0, .bool false] 23)))
      have HB4 := Lib.hid (alc HB3.out (.cells #[.int .i64 0, .int .i64 0, .int .i64 0, .int .i64 0, .int .i64 0, .bool false] 23))
      rw [hW4] at HY HX4 HB4 HR4 ⊢
      obtain ⟨y, hy⟩ : ∃ y, w3.heap.size = y := ⟨_, rfl⟩
      rw [hy] at HY ⊢
      clear hW4 HX3 HB3 HR3 hy
      obtain ⟨_, k0, k1, k2, k3, k4, k5, kf⟩ := HX4.out
      go_cut [29] (fun v29 wx => v29 = .bool true ∧ Hid (Below W4.heap.size W4 wx))
      case first =>
        cases v
        · go_wp2_with fail
          go_meet
          exact ⟨rfl, Lib.hid (Below.refl _ _)⟩
        · have HM : Hid (capMayB b l c p t true = false) := HV
          go_wp2_with fail
          refine (rmay_is _ _ _ _ _ _ _ _ HM.out).mono ?_
          rintro e w5 ⟨rfl, hb⟩
          go_wp2_with fail
          go_meet
          exact ⟨rfl, Lib.hid hb⟩
      case rest =>
        obtain ⟨rfl, hbc⟩ := hcut
        have HY5 := Lib.hid (HY.out.below hbc.out)
        have HR5 := Lib.hid (HR4.out.below hbc.out)
        have HB5 := Lib.hid (thn HB4.out hbc.out)
        clear k0 k1 k2 k3 k4 k5 kf HX4 HY HR4 HB4 hbc
        obtain ⟨wc, rfl⟩ : ∃ wz : World, wz = wc := ⟨_, rfl⟩
        go_upto_region 5 with (fail)
        obtain ⟨jy, j0, j1, j2, j3, j4, j5, _⟩ := HY5.out
        obtain ⟨S0, hS0⟩ : ∃ S0, strU (fun _ => 0) 16 = S0 := ⟨_, rfl⟩
        refine wp_region_held_drew (S := (fun w' => w'.cell? ⟨y, 0, none⟩ = some (.int .i64 0) ∧ w'.cell? ⟨y, 1, none⟩ = some (.int .i64 0) ∧ w'.cell? ⟨y, 2, none⟩ = some (.int .i64 0) ∧ w'.cell? ⟨y, 3, none⟩ = some (.int .i64 0) ∧ w'.cell? ⟨y, 4, none⟩ = some (.int .i64 0) ∧ w'.cell? ⟨y, 5, none⟩ = some (.bool false) ∧ Hid (RowU g 16 w' (fun _ => 0)) ∧ Hid (Below w.heap.size w w') ∧ y < w'.heap.size)) (by kernel_rfl) ?_ (fun hHeld => ?_)
        · exact ⟨j0, j1, j2, j3, j4, j5, Lib.hid (HR5.out.below (Below.refl _ _).drew), Lib.hid HB5.out.drew, jy⟩
        have HTAKE := Lib.hid (fun (w' : World) (h : (fun w' => w'.cell? ⟨y, 0, none⟩ = some (.int .i64 0) ∧ w'.cell? ⟨y, 1, none⟩ = some (.int .i64 0) ∧ w'.cell? ⟨y, 2, none⟩ = some (.int .i64 0) ∧ w'.cell? ⟨y, 3, none⟩ = some (.int .i64 0) ∧ w'.cell? ⟨y, 4, none⟩ = some (.int .i64 0) ∧ w'.cell? ⟨y, 5, none⟩ = some (.bool false) ∧ Hid (RowU g 16 w' (fun _ => 0)) ∧ Hid (Below w.heap.size w w') ∧ y < w'.heap.size) w') => (conv_row h.2.2.2.2.2.2.1.out 16).trans (by rw [hS0]))
        clear j0 j1 j2 j3 j4 j5 jy HY5 HR5 HB5 hmk
        refine wpAnyH_ready (rs := [0]) (by kernel_rfl) (by simp) ?_
        refine AllReadyH.cons rfl (fun K2 hK2 => ?_) AllReadyH.nil
        go_simp
        refine (c11awake _).mono ?_
        rintro e w9 ⟨rfl, hb⟩
        refine hK2.out _ _ ?_ (fun hHeld2 => ?_)
        · obtain ⟨j0, j1, j2, j3, j4, j5, jr, jb, jy⟩ := hHeld
          exact ⟨(hb.cell (p := ⟨y, 0, none⟩) jy).trans j0, (hb.cell (p := ⟨y, 1, none⟩) jy).trans j1, (hb.cell (p := ⟨y, 2, none⟩) jy).trans j2, (hb.cell (p := ⟨y, 3, none⟩) jy).trans j3, (hb.cell (p := ⟨y, 4, none⟩) jy).trans j4, (hb.cell (p := ⟨y, 5, none⟩) jy).trans j5, Lib.hid (jr.out.below hb), Lib.hid (thn jb.out hb), Nat.lt_of_lt_of_le jy hb.size⟩
        clear hb
        clear hK2 K2 hHeld
        have hHeld := hHeld2
        clear hHeld2
        try simp (maxSteps := 4000000) only [Act.put, List.setIfInBounds_toArray, List.set_cons_zero, List.set_cons_succ]
        have hmk := mk16 w9
        refine wpAnyH_take (i := 1) (v := ?_) rfl (by kernel_rfl) (by kernel_rfl) (by kernel_rfl) (fun _ _ _ h => h) (Or.inl ⟨by kernel_rfl, ?_⟩) (by assumption) ?_
        rotate_left
        · (intro w hSw; (try dsimp only at hSw); (try have hTk := Hid.out HTAKE _ hSw); go_simp)
          try (with_reducible rfl)
        rotate_left
        try simp (maxSteps := 4000000) only [Act.put, List.setIfInBounds_toArray, List.set_cons_zero, List.set_cons_succ, List.getElem_toArray, List.getElem_cons_zero, List.getElem_cons_succ]
        refine wpAnyH_take (i := 2) (v := ?_) rfl (by kernel_rfl) (by kernel_rfl) (by kernel_rfl) (fun _ _ _ h => h) (Or.inl ⟨by kernel_rfl, ?_⟩) (by assumption) ?_
        rotate_left
        · (intro w hSw; (try dsimp only at hSw); (try have hTk := Hid.out HTAKE _ hSw); go_simp)
          try (with_reducible rfl)
        rotate_left
        try simp (maxSteps := 4000000) only [Act.put, List.setIfInBounds_toArray, List.set_cons_zero, List.set_cons_succ, List.getElem_toArray, List.getElem_cons_zero, List.getElem_cons_succ]
        refine wpAnyH_take (i := 3) (v := ?_) rfl (by kernel_rfl) (by kernel_rfl) (by kernel_rfl) (fun _ _ _ h => h) (Or.inl ⟨by kernel_rfl, ?_⟩) (by assumption) ?_
        rotate_left
        · (intro w hSw; (try dsimp only at hSw); (try have hTk := Hid.out HTAKE _ hSw); go_simp)
          try (with_reducible rfl)
        rotate_left
        try simp (maxSteps := 4000000) only [Act.put, List.setIfInBounds_toArray, List.set_cons_zero, List.set_cons_succ, List.getElem_toArray, List.getElem_cons_zero, List.getElem_cons_succ]
        refine wpAnyH_ready (rs := [4]) (by kernel_rfl) (by simp) ?_
        refine AllReadyH.cons rfl (fun K2 hK2 => ?_) AllReadyH.nil
        go_simp
        have hrm := row16 w9
        have hbm := alc0 w9 (.cells (madeCells #[.int .u8 0] 16) 5)
        obtain ⟨wm, hwm⟩ : ∃ wm, w9.alloc (.cells (madeCells #[.int .u8 0] 16) 5) = wm := ⟨_, rfl⟩
        rw [hwm] at hrm hbm ⊢
        refine hK2.out _ _ ?_ (fun hHeld2 => ?_)
        · obtain ⟨j0, j1, j2, j3, j4, j5, jr, jb, jy⟩ := hHeld
          exact ⟨(hbm.cell (p := ⟨y, 0, none⟩) jy).trans j0, (hbm.cell (p := ⟨y, 1, none⟩) jy).trans j1, (hbm.cell (p := ⟨y, 2, none⟩) jy).trans j2, (hbm.cell (p := ⟨y, 3, none⟩) jy).trans j3, (hbm.cell (p := ⟨y, 4, none⟩) jy).trans j4, (hbm.cell (p := ⟨y, 5, none⟩) jy).trans j5, Lib.hid (jr.out.below hbm), Lib.hid (thn jb.out hbm), Nat.lt_of_lt_of_le jy hbm.size⟩
        clear hmk hwm hbm
        clear hK2 K2 hHeld
        have hHeld := hHeld2
        clear hHeld2
        try simp (maxSteps := 4000000) only [Act.put, List.setIfInBounds_toArray, List.set_cons_zero, List.set_cons_succ]
        have hcv := (conv_row hrm 16).trans (by rw [hS0])
        clear HTAKE hrm
        refine wpAnyH_ready (rs := [5]) (by kernel_rfl) (by simp) ?_
        refine AllReadyH.cons rfl (fun K2 hK2 => ?_) AllReadyH.nil
        go_simp
        refine hK2.out _ _ hHeld (fun hHeld2 => ?_)
        clear hK2 K2 hHeld
        have hHeld := hHeld2
        clear hHeld2
        try simp (maxSteps := 4000000) only [Act.put, List.setIfInBounds_toArray, List.set_cons_zero, List.set_cons_succ]
        refine wpAnyH_take (i := 6) (v := ?_) rfl (by kernel_rfl) (by kernel_rfl) (by kernel_rfl) (fun _ _ _ h => h) (Or.inl ⟨by kernel_rfl, ?_⟩) (by assumption) ?_
        rotate_left
        · (intro w hSw; (try dsimp only at hSw); go_simp)
          try (with_reducible rfl)
        rotate_left
        try simp (maxSteps := 4000000) only [Act.put, List.setIfInBounds_toArray, List.set_cons_zero, List.set_cons_succ, List.getElem_toArray, List.getElem_cons_zero, List.getElem_cons_succ]
        refine wpAnyH_take (i := 7) (v := ?_) rfl (by kernel_rfl) (by kernel_rfl) (by kernel_rfl) (fun _ _ _ h => h) (Or.inl ⟨by kernel_rfl, ?_⟩) (by assumption) ?_
        rotate_left
        · (intro w hSw; (try dsimp only at hSw); go_simp)
          try (with_reducible rfl)
        rotate_left
        try simp (maxSteps := 4000000) only [Act.put, List.setIfInBounds_toArray, List.set_cons_zero, List.set_cons_succ, List.getElem_toArray, List.getElem_cons_zero, List.getElem_cons_succ]
        refine wpAnyH_take (i := 8) (v := ?_) rfl (by kernel_rfl) (by kernel_rfl) (by kernel_rfl) (fun _ _ _ h => h) (Or.inl ⟨by kernel_rfl, ?_⟩) (by assumption) ?_
        rotate_left
        · (intro w hSw; (try dsimp only at hSw); go_simp)
          try (with_reducible rfl)
        rotate_left
        try simp (maxSteps := 4000000) only [Act.put, List.setIfInBounds_toArray, List.set_cons_zero, List.set_cons_succ, List.getElem_toArray, List.getElem_cons_zero, List.getElem_cons_succ]
        refine wpAnyH_take (i := 9) (v := ?_) rfl (by kernel_rfl) (by kernel_rfl) (by kernel_rfl) (fun _ _ _ h => h) (Or.inl ⟨by kernel_rfl, ?_⟩) (by assumption) ?_
        rotate_left
        · (intro w hSw; (try dsimp only at hSw); go_simp)
          try (with_reducible rfl)
        rotate_left
        try simp (maxSteps := 4000000) only [Act.put, List.setIfInBounds_toArray, List.set_cons_zero, List.set_cons_succ, List.getElem_toArray, List.getElem_cons_zero, List.getElem_cons_succ]
        refine wpAnyH_take (i := 10) (v := ?_) rfl (by kernel_rfl) (by kernel_rfl) (by kernel_rfl) (fun _ _ _ h => h) (Or.inl ⟨by kernel_rfl, ?_⟩) (by assumption) ?_
        rotate_left
        · (intro w hSw; (try dsimp only at hSw); go_simp)
          try (with_reducible rfl)
        rotate_left
        try simp (maxSteps := 4000000) only [Act.put, List.setIfInBounds_toArray, List.set_cons_zero, List.set_cons_succ, List.getElem_toArray, List.getElem_cons_zero, List.getElem_cons_succ]
        refine wpAnyH_take (i := 11) (v := ?_) rfl (by kernel_rfl) (by kernel_rfl) (by kernel_rfl) (fun _ _ _ h => h) (Or.inl ⟨by kernel_rfl, ?_⟩) (by assumption) ?_
        rotate_left
        · (intro w hSw; (try dsimp only at hSw); go_simp)
          try (with_reducible rfl)
        rotate_left
        try simp (maxSteps := 4000000) only [Act.put, List.setIfInBounds_toArray, List.set_cons_zero, List.set_cons_succ, List.getElem_toArray, List.getElem_cons_zero, List.getElem_cons_succ]
        refine wpAnyH_take (i := 12) (v := ?_) rfl (by kernel_rfl) (by kernel_rfl) (by kernel_rfl) (fun _ _ _ h => h) (Or.inl ⟨by kernel_rfl, ?_⟩) (by assumption) ?_
        rotate_left
        · (intro w hSw; (try dsimp only at hSw); go_simp)
          try (with_reducible rfl)
        rotate_left
        try simp (maxSteps := 4000000) only [Act.put, List.setIfInBounds_toArray, List.set_cons_zero, List.set_cons_succ, List.getElem_toArray, List.getElem_cons_zero, List.getElem_cons_succ]
        refine wpAnyH_take (i := 13) (v := ?_) rfl (by kernel_rfl) (by kernel_rfl) (by kernel_rfl) (fun _ _ _ h => h) (Or.inl ⟨by kernel_rfl, ?_⟩) (by assumption) ?_
        rotate_left
        · (intro w hSw; (try dsimp only at hSw); go_simp)
          try (with_reducible rfl)
        rotate_left
        try simp (maxSteps := 4000000) only [Act.put, List.setIfInBounds_toArray, List.set_cons_zero, List.set_cons_succ, List.getElem_toArray, List.getElem_cons_zero, List.getElem_cons_succ]
        refine wpAnyH_take (i := 14) (v := ?_) rfl (by kernel_rfl) (by kernel_rfl) (by kernel_rfl) (fun _ _ _ h => h) (Or.inl ⟨by kernel_rfl, ?_⟩) (by assumption) ?_
        rotate_left
        · (intro w hSw; (try dsimp only at hSw); go_simp)
          try (with_reducible rfl)
        rotate_left
        try simp (maxSteps := 4000000) only [Act.put, List.setIfInBounds_toArray, List.set_cons_zero, List.set_cons_succ, List.getElem_toArray, List.getElem_cons_zero, List.getElem_cons_succ]
        refine wpAnyH_take (i := 15) (v := ?_) rfl (by kernel_rfl) (by kernel_rfl) (by kernel_rfl) (fun _ _ _ h => h) (Or.inl ⟨by kernel_rfl, ?_⟩) (by assumption) ?_
        rotate_left
        · (intro w hSw; (try dsimp only at hSw); go_simp)
          try (with_reducible rfl)
        rotate_left
        try simp (maxSteps := 4000000) only [Act.put, List.setIfInBounds_toArray, List.set_cons_zero, List.set_cons_succ, List.getElem_toArray, List.getElem_cons_zero, List.getElem_cons_succ]
        refine wpAnyH_take (i := 16) (v := ?_) rfl (by kernel_rfl) (by kernel_rfl) (by kernel_rfl) (fun _ _ _ h => h) (Or.inl ⟨by kernel_rfl, ?_⟩) (by assumption) ?_
        rotate_left
        · (intro w hSw; (try dsimp only at hSw); go_simp)
          try (with_reducible rfl)
        rotate_left
        try simp (maxSteps := 4000000) only [Act.put, List.setIfInBounds_toArray, List.set_cons_zero, List.set_cons_succ, List.getElem_toArray, List.getElem_cons_zero, List.getElem_cons_succ]
        refine wpAnyH_take (i := 17) (v := ?_) rfl (by kernel_rfl) (by kernel_rfl) (by kernel_rfl) (fun _ _ _ h => h) (Or.inl ⟨by kernel_rfl, ?_⟩) (by assumption) ?_
        rotate_left
        · (intro w hSw; (try dsimp only at hSw); go_simp)
          try (with_reducible rfl)
        rotate_left
        try simp (maxSteps := 4000000) only [Act.put, List.setIfInBounds_toArray, List.set_cons_zero, List.set_cons_succ, List.getElem_toArray, List.getElem_cons_zero, List.getElem_cons_succ]
        refine wpAnyH_done (by kernel_rfl) ?_ _
        go_wp2
        go_ret
        exact ⟨ret_bool (by simp), hHeld.2.2.2.2.2.2.2.1.out⟩
  · obtain ⟨hv1, hv2⟩ := Bool.and_eq_true_iff.1 hv
    obtain rfl := hv1
    obtain ⟨B, L, D, P, T, rfl, rfl, hD, rfl, rfl, hB, hL, hDl, hP, hT⟩ := capOk_nat hv2
    have HV := Lib.hid hv2
    have HD := Lib.hid hD
    clear hv hv2
    have HOK := Lib.hid ((codeOk_F B L D P T c hB hL hDl hD).trans HV.out)
    have HG := Lib.hid (codeF_get B L D P T hB hL hDl)
    have HLT := Lib.hid (codeF_lt B L D P T hP hT)
    have hcr : (B : Int) + D - 1048576 = c := by omega
    have HCR := Lib.hid hcr
    clear hcr hD
    go_wp2_with fail
    refine (cbytes_yes B L D P T c _ HV.out HD.out).mono ?_
    rintro e w2 ⟨g, rfl, hg, hr, hb⟩
    have HR := Lib.hid hr
    have HX2 := Lib.hid (HX.out.below hb)
    have HB2 := Lib.hid (thn HB.out hb)
    clear hr hb k0 k1 k2 k3 k4 k5 kf HX HB
    go_wp2_with fail
    refine (cread_ok g 16 _ _ HR.out HLT.out (by omega) HOK.out B L P T c HG.out.1 HG.out.2.1 (by rw [HG.out.2.2]; exact HCR.out) rfl rfl).mono ?_
    rintro e w3 ⟨rfl, hb⟩
    have HR3 := Lib.hid (HR.out.below hb)
    have HX3 := Lib.hid (HX2.out.below hb)
    have HB3 := Lib.hid (thn HB2.out hb)
    clear hb HX2 HB2 HR
    obtain ⟨f, hf⟩ : ∃ f, codeF B L D P T = f := ⟨_, rfl⟩
    have HF := Lib.hid hf
    rw [hf] at HR3
    clear hf
    go_upto_region 4 with (fail)
    obtain ⟨W4, hW4⟩ : ∃ W4, w3.alloc (.cells #[.int .i64 B, .int .i64 L, .int .i64 c, .int .i64 P, .int .i64 T, .bool true] 23) = W4 := ⟨_, rfl⟩
    have HY := Lib.hid (CapAt.new w3 B L c P T true 23)
    have HX4 := Lib.hid (HX3.out.below (alc0 w3 (.cells #[.int .i64 B, .int .i64 L, .int .i64 c, .int .i64 P, .int .i64 T, .bool true] 23)))
    have HR4 := Lib.hid (HR3.out.below (alc0 w3 (.cells #[.int .i64 B, .int .i64 L, .int .i64 c, .int .i64 P, .int .i64 T, .bool true] 23)))
    have HB4 := Lib.hid (alc HB3.out (.cells #[.int .i64 B, .int .i64 L, .int .i64 c, .int .i64 P, .int .i64 T, .bool true] 23))
    rw [hW4] at HY HX4 HB4 HR4 ⊢
    obtain ⟨y, hy⟩ : ∃ y, w3.heap.size = y := ⟨_, rfl⟩
    rw [hy] at HY ⊢
    clear hW4 HX3 HB3 HR3 hy
    have HM : Hid (capMayB B L c P T true = true) := HV
    obtain ⟨_, k0, k1, k2, k3, k4, k5, kf⟩ := HX4.out
    go_wp2_with fail
    refine (rmay_is _ _ _ _ _ _ _ _ HM.out).mono ?_
    rintro e w5 ⟨rfl, hb⟩
    have HX5 := Lib.hid (HX4.out.below hb)
    have HY5 := Lib.hid (HY.out.below hb)
    have HR5 := Lib.hid (HR4.out.below hb)
    have HB5 := Lib.hid (thn HB4.out hb)
    clear hb k0 k1 k2 k3 k4 k5 kf HX4 HY HR4 HB4
    go_upto_region 7 with (fail)
    have HQ0 := Lib.hid (World.ownsRow_lit (base := w.heap.size) (e := 5) (size := 1) w5 #[.int .u8 197] 1 HB5.out.size (by unfold maxLen; omega) rfl)
    have HX6 := Lib.hid (HX5.out.below (alc0 w5 (.cells #[.int .u8 197] 5)))
    have HY6 := Lib.hid (HY5.out.below (alc0 w5 (.cells #[.int .u8 197] 5)))
    have HR6 := Lib.hid (HR5.out.below (alc0 w5 (.cells #[.int .u8 197] 5)))
    have HB6 := Lib.hid (alc HB5.out (.cells #[.int .u8 197] 5))
    have hs6 : (w5.alloc (.cells #[.int .u8 197] 5)).heap.size = w5.heap.size + 1 := by simp
    have hx5 := HX5.out.1; have hy5 := HY5.out.1; have hg5 := HR5.out.1
    obtain ⟨W6, hW6⟩ : ∃ W6, w5.alloc (.cells #[.int .u8 197] 5) = W6 := ⟨_, rfl⟩
    obtain ⟨q0, hq0⟩ : ∃ q0, w5.heap.size = q0 := ⟨_, rfl⟩
    rw [hW6] at HQ0 HX6 HY6 HR6 HB6 hs6 ⊢
    rw [hq0] at HQ0 hs6 hx5 hy5 hg5 ⊢
    have HS6 := Lib.hid hs6
    clear hW6 hq0 hs6 HX5 HY5 HR5 HB5
    obtain ⟨_, k0, k1, k2, k3, k4, k5, kf⟩ := HX6.out
    obtain ⟨_, hcb, hcc, _, _⟩ := ok_base (v := true) (by rw [HV.out]; rfl : (true && capOkB B L c P T) = true)
    have hw1 : IntKind.i64.wrap (c - B) = c - B := IntWalk.i64_in _ (by omega)
    have hw2 : IntKind.i64.wrap (c - B + 1048576) = D := by rw [HD.out]; exact IntWalk.i64_in _ (by omega)
    have hw3 : IntKind.u8.wrap (P : Int) = P := by rw [IntKind.wrap_u8]; omega
    have hw4 : IntKind.u8.wrap (T : Int) = T := by rw [IntKind.wrap_u8]; omega
    go_upto_region 8 with (fail)
    have HZ := Lib.hid (At3.new W6 B L D 41)
    have HX7 := HX6.out.below (alc0 W6 (.cells #[.int .i64 B, .int .i64 L, .int .i64 D] 41))
    have HY7 := HY6.out.below (alc0 W6 (.cells #[.int .i64 B, .int .i64 L, .int .i64 D] 41))
    have HR7 := HR6.out.below (alc0 W6 (.cells #[.int .i64 B, .int .i64 L, .int .i64 D] 41))
    have HB7 := Lib.hid (alc HB6.out (.cells #[.int .i64 B, .int .i64 L, .int .i64 D] 41))
    have HQ7 := Lib.hid (HQ0.out.alloc (.cells #[.int .i64 B, .int .i64 L, .int .i64 D] 41))
    have hs7 : (W6.alloc (.cells #[.int .i64 B, .int .i64 L, .int .i64 D] 41)).heap.size = W6.heap.size + 1 := by simp
    obtain ⟨W7, hW7⟩ : ∃ W7, W6.alloc (.cells #[.int .i64 B, .int .i64 L, .int .i64 D] 41) = W7 := ⟨_, rfl⟩
    have hs6 := HS6.out
    obtain ⟨z, hz⟩ : ∃ z, W6.heap.size = z := ⟨_, rfl⟩
    clear HS6
    rw [hW7] at HZ HX7 HY7 HR7 HB7 HQ7 hs7 ⊢
    rw [hz] at HZ hs6 hs7 ⊢
    have hzq : q0 < z := by omega
    have hz7 : z < W7.heap.size := by omega
    clear hs6 hs7
    have HC7 : Hid (CB x y z g W7 B L c P T B L D f) := Lib.hid ⟨HX7, HY7, HZ.out, HR7⟩
    clear hW7 hz HX7 HY7 HR7 HZ HX6 HY6 HR6 HB6 HQ0 k0 k1 k2 k3 k4 k5 kf hw1 hw2 hcb hcc
    obtain ⟨N0, hN0e⟩ : ∃ N0, B = N0 := ⟨_, rfl⟩
    obtain ⟨N1, hN1e⟩ : ∃ N1, L = N1 := ⟨_, rfl⟩
    obtain ⟨N2, hN2e⟩ : ∃ N2, D = N2 := ⟨_, rfl⟩
    obtain ⟨X00, Y0, X01, X02, hN0, hT0⟩ := num3 B hB
    obtain ⟨X10, Y1, X11, X12, hN1, hT1⟩ := num3 L hL
    obtain ⟨X20, Y2, X21, X22, hN2, hT2⟩ := num3 D hDl
    rw [hN0e] at hN0; rw [hN1e] at hN1; rw [hN2e] at hN2
    have HNS := Lib.hid (And.intro hN0 (And.intro hN1 hN2))
    have HTS := Lib.hid (And.intro hT0 (And.intro hT1 hT2))
    have HQ8 : Hid (W7.ownsRow w.heap.size 5 1 (.slice (some ⟨q0, 0, none⟩) 1 1) 1 (WL 0 [X00, X01, X02] [X10, X11, X12] [X20, X21, X22])) := Lib.hid (by exact HQ7.out)
    have HC8 : Hid (CB x y z g W7 B L c P T N0 N1 N2 f) := Lib.hid (by rw [← hN0e, ← hN1e, ← hN2e]; exact HC7.out)
    have HNE := Lib.hid (And.intro hN0e (And.intro hN1e hN2e))
    clear HQ7 HC7 hN0e hN1e hN2e hN0 hN1 hN2 hT0 hT1 hT2
    go_wp2_with fail
    go_loopw [9, 11] (fun v9 v11 wr => ∃ (i q ca m : Nat), i ≤ 3 ∧ m = 1 + 3 * i ∧ v11 = .int .i64 (i : Nat) ∧ v9 = .slice (some ⟨q, 0, none⟩) m ca ∧ Hid (wr.ownsRow w.heap.size 5 1 (.slice (some ⟨q, 0, none⟩) m ca) m (WL i [X00, X01, X02] [X10, X11, X12] [X20, X21, X22])) ∧ q ≠ x ∧ q ≠ y ∧ q ≠ z ∧ q ≠ g ∧ q < wr.heap.size ∧ Hid (CB x y z g wr B L c P T N0 N1 N2 f) ∧ Hid (Below w.heap.size w wr)) (fun _ v11 _ => 3 - (intOf v11).toNat)
    case atStart => exact ⟨0, q0, 1, 1, by omega, by omega, rfl, rfl, HQ8, by omega, by omega, by omega, by omega, by omega, HC8, HB7⟩
    case round =>
      clear HQ8 HC8 HB7 hzq hz7 hx5 hy5 hg5
      obtain ⟨i, q, ca, m, hi3, hm, rfl, rfl, HO, hqx, hqy, hqz, hqg, hqs, HCB, HBr⟩ := hrel
      obtain ⟨_, _, ⟨_, c0, c1, c2⟩, _⟩ := HCB.out
      have hm16 : m ≤ 10 := by omega
      obtain ⟨⟨ea1, ea2, ea3, ea4, ea5, ea6, ea7, ea8, ea9, ea10, ea11, ea12, ea13⟩, ⟨eb1, eb2, eb3, eb4, eb5, eb6, eb7, eb8, eb9, eb10, eb11, eb12, eb13⟩, ⟨ed1, ed2, ed3, ed4, ed5, ed6, ed7, ed8, ed9, ed10, ed11, ed12, ed13⟩⟩ := HNS.out
      have hi4 : i = 0 ∨ i = 1 ∨ i = 2 ∨ i = 3 := by omega
      rcases hi4 with rfl | rfl | rfl | rfl
      · as_aux_lemma =>
        obtain rfl : m = 1 := by omega
        clear hm
        go_upto_region 11 with (fail)
        have HOd : Hid (wr.drew.ownsRow w.heap.size 5 1 (.slice (some ⟨q, 0, none⟩) 1 ca) 1 (WL 0 [X00, X01, X02] [X10, X11, X12] [X20, X21, X22])) := Lib.hid HO.out.drew
        have HCd := Lib.hid (HCB.out.below (Below.refl _ _).drew)
        have HBd := Lib.hid HBr.out.drew
        have hqd : q < wr.drew.heap.size := hqs
        obtain ⟨wd, hwd⟩ : ∃ wd, wr.drew = wd := ⟨_, rfl⟩
        refine wp_region_held_drew (S := fun w' => w'.cell? ⟨z, 0, none⟩ = some (.int .i64 N0) ∧ w'.cell? ⟨z, 1, none⟩ = some (.int .i64 N1) ∧ w'.cell? ⟨z, 2, none⟩ = some (.int .i64 N2)) (by kernel_rfl) ⟨c0, c1, c2⟩ (fun hHeld => ?_)
        rw [hwd] at HOd HCd HBd hqd hHeld ⊢
        have hzd := HCd.out.2.2.1.1
        clear hwd HO HCB HBr hqs c0 c1 c2
        refine wpAnyH_take (i := 0) (v := ?_) rfl (by kernel_rfl) (by kernel_rfl) (by kernel_rfl) (fun _ _ _ h => h) (Or.inl ⟨by kernel_rfl, ?_⟩) (by assumption) ?_
        rotate_left
        · (intro w hSw; (try dsimp only at hSw); go_simp)
          try (with_reducible rfl)
        rotate_left
        try simp (maxSteps := 4000000) only [Act.put, List.setIfInBounds_toArray, List.set_cons_zero, List.set_cons_succ, List.getElem_toArray, List.getElem_cons_zero, List.getElem_cons_succ]
        refine wpAnyH_take (i := 1) (v := ?_) rfl (by kernel_rfl) (by kernel_rfl) (by kernel_rfl) (fun _ _ _ h => h) (Or.inl ⟨by kernel_rfl, ?_⟩) (by assumption) ?_
        rotate_left
        · (intro w hSw; (try dsimp only at hSw); go_simp)
          try (with_reducible rfl)
        rotate_left
        try simp (maxSteps := 4000000) only [Act.put, List.setIfInBounds_toArray, List.set_cons_zero, List.set_cons_succ, List.getElem_toArray, List.getElem_cons_zero, List.getElem_cons_succ]
        refine wpAnyH_take (i := 2) (v := ?_) rfl (by kernel_rfl) (by kernel_rfl) (by kernel_rfl) (fun _ _ _ h => h) (Or.inl ⟨by kernel_rfl, ?_⟩) (by assumption) ?_
        rotate_left
        · (intro w hSw; (try dsimp only at hSw); go_simp)
          try (with_reducible rfl)
        rotate_left
        try simp (maxSteps := 4000000) only [Act.put, List.setIfInBounds_toArray, List.set_cons_zero, List.set_cons_succ, List.getElem_toArray, List.getElem_cons_zero, List.getElem_cons_succ]
        refine wpAnyH_take (i := 3) (v := ?_) rfl (by kernel_rfl) (by kernel_rfl) (by kernel_rfl) (fun _ _ _ h => h) (Or.inl ⟨by kernel_rfl, ?_⟩) (by assumption) ?_
        rotate_left
        · (intro w hSw; (try dsimp only at hSw); go_simp)
          try (with_reducible rfl)
        rotate_left
        try simp (maxSteps := 4000000) only [Act.put, List.setIfInBounds_toArray, List.set_cons_zero, List.set_cons_succ, List.getElem_toArray, List.getElem_cons_zero, List.getElem_cons_succ]
        refine wpAnyH_take (i := 4) (v := ?_) rfl (by kernel_rfl) (by kernel_rfl) (by kernel_rfl) (fun _ _ _ h => h) (Or.inl ⟨by kernel_rfl, ?_⟩) (by assumption) ?_
        rotate_left
        · (intro w hSw; (try dsimp only at hSw); go_simp)
          try (with_reducible rfl)
        rotate_left
        try simp (maxSteps := 4000000) only [Act.put, List.setIfInBounds_toArray, List.set_cons_zero, List.set_cons_succ, List.getElem_toArray, List.getElem_cons_zero, List.getElem_cons_succ]
        refine wpAnyH_take (i := 5) (v := ?_) rfl (by kernel_rfl) (by kernel_rfl) (by kernel_rfl) (fun _ _ _ h => h) (Or.inl ⟨by kernel_rfl, ?_⟩) (by assumption) ?_
        rotate_left
        · (intro w hSw; (try dsimp only at hSw); go_simp)
          try (with_reducible rfl)
        rotate_left
        try simp (maxSteps := 4000000) only [Act.put, List.setIfInBounds_toArray, List.set_cons_zero, List.set_cons_succ, List.getElem_toArray, List.getElem_cons_zero, List.getElem_cons_succ]
        refine wpAnyH_take (i := 6) (v := ?_) rfl (by kernel_rfl) (by kernel_rfl) (by kernel_rfl) (fun _ _ _ h => h) (Or.inl ⟨by kernel_rfl, ?_⟩) (by assumption) ?_
        rotate_left
        · (intro w hSw; (try dsimp only at hSw); go_simp)
          try (with_reducible rfl)
        rotate_left
        try simp (maxSteps := 4000000) only [Act.put, List.setIfInBounds_toArray, List.set_cons_zero, List.set_cons_succ, List.getElem_toArray, List.getElem_cons_zero, List.getElem_cons_succ]
        refine wpAnyH_take (i := 7) (v := ?_) rfl (by kernel_rfl) (by kernel_rfl) (by kernel_rfl) (fun _ _ _ h => h) (Or.inl ⟨by kernel_rfl, ?_⟩) (by assumption) ?_
        rotate_left
        · (intro w hSw; (try dsimp only at hSw); go_simp)
          try (with_reducible rfl)
        rotate_left
        try simp (maxSteps := 4000000) only [Act.put, List.setIfInBounds_toArray, List.set_cons_zero, List.set_cons_succ, List.getElem_toArray, List.getElem_cons_zero, List.getElem_cons_succ]
        refine wpAnyH_take (i := 8) (v := ?_) rfl (by kernel_rfl) (by kernel_rfl) (by kernel_rfl) (fun _ _ _ h => h) (Or.inl ⟨by kernel_rfl, ?_⟩) (by assumption) ?_
        rotate_left
        · (intro w hSw; (try dsimp only at hSw); go_simp)
          try (with_reducible rfl)
        rotate_left
        try simp (maxSteps := 4000000) only [Act.put, List.setIfInBounds_toArray, List.set_cons_zero, List.set_cons_succ, List.getElem_toArray, List.getElem_cons_zero, List.getElem_cons_succ]
        refine wpAnyH_take (i := 9) (v := ?_) rfl (by kernel_rfl) (by kernel_rfl) (by kernel_rfl) (fun _ _ _ h => h) (Or.inl ⟨by kernel_rfl, ?_⟩) (by assumption) ?_
        rotate_left
        · (intro w hSw; (try dsimp only at hSw); go_simp)
          try (with_reducible rfl)
        rotate_left
        try simp (maxSteps := 4000000) only [Act.put, List.setIfInBounds_toArray, List.set_cons_zero, List.set_cons_succ, List.getElem_toArray, List.getElem_cons_zero, List.getElem_cons_succ]
        refine wpAnyH_take (i := 10) (v := ?_) rfl (by kernel_rfl) (by kernel_rfl) (by kernel_rfl) (fun _ _ _ h => h) (Or.inl ⟨by kernel_rfl, ?_⟩) (by assumption) ?_
        rotate_left
        · (intro w hSw; (try dsimp only at hSw); go_simp)
          try (with_reducible rfl)
        rotate_left
        try simp (maxSteps := 4000000) only [Act.put, List.setIfInBounds_toArray, List.set_cons_zero, List.set_cons_succ, List.getElem_toArray, List.getElem_cons_zero, List.getElem_cons_succ]
        refine wpAnyH_take (i := 11) (v := ?_) rfl (by kernel_rfl) (by kernel_rfl) (by kernel_rfl) (fun _ _ _ h => h) (Or.inl ⟨by kernel_rfl, ?_⟩) (by assumption) ?_
        rotate_left
        · (intro w hSw; (try dsimp only at hSw); go_simp)
          try (with_reducible rfl)
        rotate_left
        try simp (maxSteps := 4000000) only [Act.put, List.setIfInBounds_toArray, List.set_cons_zero, List.set_cons_succ, List.getElem_toArray, List.getElem_cons_zero, List.getElem_cons_succ]
        refine wpAnyH_take (i := 12) (v := ?_) rfl (by kernel_rfl) (by kernel_rfl) (by kernel_rfl) (fun _ _ _ h => h) (Or.inl ⟨by kernel_rfl, ?_⟩) (by assumption) ?_
        rotate_left
        · (intro w hSw; (try dsimp only at hSw); go_simp)
          try (with_reducible rfl)
        rotate_left
        try simp (maxSteps := 4000000) only [Act.put, List.setIfInBounds_toArray, List.set_cons_zero, List.set_cons_succ, List.getElem_toArray, List.getElem_cons_zero, List.getElem_cons_succ]
        refine wpAnyH_take (i := 13) (v := ?_) rfl (by kernel_rfl) (by kernel_rfl) (by kernel_rfl) (fun _ _ _ h => h) (Or.inl ⟨by kernel_rfl, ?_⟩) (by assumption) ?_
        rotate_left
        · (intro w hSw; (try dsimp only at hSw); go_simp)
          try (with_reducible rfl)
        rotate_left
        try simp (maxSteps := 4000000) only [Act.put, List.setIfInBounds_toArray, List.set_cons_zero, List.set_cons_succ, List.getElem_toArray, List.getElem_cons_zero, List.getElem_cons_succ]
        refine wpAnyH_take (i := 14) (v := ?_) rfl (by kernel_rfl) (by kernel_rfl) (by kernel_rfl) (fun _ _ _ h => h) (Or.inl ⟨by kernel_rfl, ?_⟩) (by assumption) ?_
        rotate_left
        · (intro w hSw; (try dsimp only at hSw); go_simp)
          try (with_reducible rfl)
        rotate_left
        try simp (maxSteps := 4000000) only [Act.put, List.setIfInBounds_toArray, List.set_cons_zero, List.set_cons_succ, List.getElem_toArray, List.getElem_cons_zero, List.getElem_cons_succ]
        refine wpAnyH_take (i := 15) (v := ?_) rfl (by kernel_rfl) (by kernel_rfl) (by kernel_rfl) (fun _ _ _ h => h) (Or.inl ⟨by kernel_rfl, ?_⟩) (by assumption) ?_
        rotate_left
        · (intro w hSw; (try dsimp only at hSw); go_simp)
          try (with_reducible rfl)
        rotate_left
        try simp (maxSteps := 4000000) only [Act.put, List.setIfInBounds_toArray, List.set_cons_zero, List.set_cons_succ, List.getElem_toArray, List.getElem_cons_zero, List.getElem_cons_succ]
        refine wpAnyH_take (i := 16) (v := ?_) rfl (by kernel_rfl) (by kernel_rfl) (by kernel_rfl) (fun _ _ _ h => h) (Or.inl ⟨by kernel_rfl, ?_⟩) (by assumption) ?_
        rotate_left
        · (intro w hSw; (try dsimp only at hSw); go_simp)
          try (with_reducible rfl)
        rotate_left
        try simp (maxSteps := 4000000) only [Act.put, List.setIfInBounds_toArray, List.set_cons_zero, List.set_cons_succ, List.getElem_toArray, List.getElem_cons_zero, List.getElem_cons_succ]
        refine wpAnyH_ready (rs := [17]) (by kernel_rfl) (by simp) ?_
        refine AllReadyH.cons rfl (fun K2 hK2 => ?_) AllReadyH.nil
        go_simp
        refine hK2.out _ _ ⟨(World.cell?_alloc_lt _ _ _ (show z < _ from hzd)).trans hHeld.1, (World.cell?_alloc_lt _ _ _ (show z < _ from hzd)).trans hHeld.2.1, (World.cell?_alloc_lt _ _ _ (show z < _ from hzd)).trans hHeld.2.2⟩ (fun hHeld2 => ?_)
        clear hK2 K2 hHeld
        have hHeld := hHeld2
        clear hHeld2
        try simp (maxSteps := 4000000) only [Act.put, List.setIfInBounds_toArray, List.set_cons_zero, List.set_cons_succ]
        refine wpAnyH_ready (rs := [18]) (by kernel_rfl) (by simp) ?_
        refine AllReadyH.cons rfl (fun K2 hK2 => ?_) AllReadyH.nil
        refine step_append_lies _ rfl _ _ 37 rfl w.heap.size 5 i0 (.int .u8 0) 1 1 Try.underlying37 hi hz0 hz1 hz2 rfl (by decide) (.slice (some ⟨q, 0, none⟩) 1 ca) 1 (WL 0 [X00, X01, X02] [X10, X11, X12] [X20, X21, X22]) rfl (HOd.out.alloc _) ⟨wd.heap.size, 0, none⟩ 3 3 [.int .u8 (X00 : Int), .int .u8 (X01 : Int), .int .u8 (X02 : Int)] rfl rfl ?_ ?_ (by omega) ?_ ?_ ?_ _ rfl ?_
        · exact cells3_new _ _ _ _ _
        · simp [Value.oneCell']
        · decide
        · omega
        · have := HBd.out.size; simp; omega
        intro q' ca' w' hown hgrow hat hlt
        have hq' : q' = q ∨ q' = wd.heap.size + 1 := by
          rcases hat with h | h
          · exact .inl (Option.some.inj (show some q = some q' from h)).symm
          · right; rw [h]; simp
        obtain ⟨q1, q2, q3, q4⟩ := HCd.out.lts
        have HCn := Lib.hid ((HCd.out.below (alc0 wd _)).grown hgrow hqx.symm hqy.symm hqz.symm hqg.symm)
        have HBn := Lib.hid ((alc HBd.out _).grown hgrow (by have := HBd.out.size; simp; omega) (fun j hj => (HOd.out.lt j hj).1))
        have hown' : Hid (w'.ownsRow w.heap.size 5 1 (.slice (some ⟨q', 0, none⟩) 4 ca') 4 (WL 1 [X00, X01, X02] [X10, X11, X12] [X20, X21, X22])) := Lib.hid (by exact hown)
        clear hown hgrow hat HCd HBd HOd
        refine hK2.out _ _ HCn.out.2.2.1.2 (fun hHeld2 => ?_)
        clear hK2 K2 hHeld
        have hHeld := hHeld2
        clear hHeld2
        try simp (maxSteps := 4000000) only [Act.put, List.setIfInBounds_toArray, List.set_cons_zero, List.set_cons_succ]
        refine wpAnyH_take (i := 19) (v := ?_) rfl (by kernel_rfl) (by kernel_rfl) (by kernel_rfl) (fun _ _ _ h => h) (Or.inl ⟨by kernel_rfl, ?_⟩) (by assumption) ?_
        rotate_left
        · (intro w hSw; (try dsimp only at hSw); go_simp)
          try (with_reducible rfl)
        rotate_left
        try simp (maxSteps := 4000000) only [Act.put, List.setIfInBounds_toArray, List.set_cons_zero, List.set_cons_succ, List.getElem_toArray, List.getElem_cons_zero, List.getElem_cons_succ]
        refine wpAnyH_done (by kernel_rfl) ?_ _
        go_wp2_with fail
        go_roundw
        case rel => exact ⟨1, q', ca', 4, by omega, by omega, rfl, rfl, hown', by omega, by omega, by omega, by omega, hlt, HCn, HBn⟩
        case measure => simp [intOf]
      · as_aux_lemma =>
        obtain rfl : m = 4 := by omega
        clear hm
        go_upto_region 11 with (fail)
        have HOd : Hid (wr.drew.ownsRow w.heap.size 5 1 (.slice (some ⟨q, 0, none⟩) 4 ca) 4 (WL 1 [X00, X01, X02] [X10, X11, X12] [X20, X21, X22])) := Lib.hid HO.out.drew
        have HCd := Lib.hid (HCB.out.below (Below.refl _ _).drew)
        have HBd := Lib.hid HBr.out.drew
        have hqd : q < wr.drew.heap.size := hqs
        obtain ⟨wd, hwd⟩ : ∃ wd, wr.drew = wd := ⟨_, rfl⟩
        refine wp_region_held_drew (S := fun w' => w'.cell? ⟨z, 0, none⟩ = some (.int .i64 N0) ∧ w'.cell? ⟨z, 1, none⟩ = some (.int .i64 N1) ∧ w'.cell? ⟨z, 2, none⟩ = some (.int .i64 N2)) (by kernel_rfl) ⟨c0, c1, c2⟩ (fun hHeld => ?_)
        rw [hwd] at HOd HCd HBd hqd hHeld ⊢
        have hzd := HCd.out.2.2.1.1
        clear hwd HO HCB HBr hqs c0 c1 c2
        refine wpAnyH_take (i := 0) (v := ?_) rfl (by kernel_rfl) (by kernel_rfl) (by kernel_rfl) (fun _ _ _ h => h) (Or.inl ⟨by kernel_rfl, ?_⟩) (by assumption) ?_
        rotate_left
        · (intro w hSw; (try dsimp only at hSw); go_simp)
          try (with_reducible rfl)
        rotate_left
        try simp (maxSteps := 4000000) only [Act.put, List.setIfInBounds_toArray, List.set_cons_zero, List.set_cons_succ, List.getElem_toArray, List.getElem_cons_zero, List.getElem_cons_succ]
        refine wpAnyH_take (i := 1) (v := ?_) rfl (by kernel_rfl) (by kernel_rfl) (by kernel_rfl) (fun _ _ _ h => h) (Or.inl ⟨by kernel_rfl, ?_⟩) (by assumption) ?_
        rotate_left
        · (intro w hSw; (try dsimp only at hSw); go_simp)
          try (with_reducible rfl)
        rotate_left
        try simp (maxSteps := 4000000) only [Act.put, List.setIfInBounds_toArray, List.set_cons_zero, List.set_cons_succ, List.getElem_toArray, List.getElem_cons_zero, List.getElem_cons_succ]
        refine wpAnyH_take (i := 2) (v := ?_) rfl (by kernel_rfl) (by kernel_rfl) (by kernel_rfl) (fun _ _ _ h => h) (Or.inl ⟨by kernel_rfl, ?_⟩) (by assumption) ?_
        rotate_left
        · (intro w hSw; (try dsimp only at hSw); go_simp)
          try (with_reducible rfl)
        rotate_left
        try simp (maxSteps := 4000000) only [Act.put, List.setIfInBounds_toArray, List.set_cons_zero, List.set_cons_succ, List.getElem_toArray, List.getElem_cons_zero, List.getElem_cons_succ]
        refine wpAnyH_take (i := 3) (v := ?_) rfl (by kernel_rfl) (by kernel_rfl) (by kernel_rfl) (fun _ _ _ h => h) (Or.inl ⟨by kernel_rfl, ?_⟩) (by assumption) ?_
        rotate_left
        · (intro w hSw; (try dsimp only at hSw); go_simp)
          try (with_reducible rfl)
        rotate_left
        try simp (maxSteps := 4000000) only [Act.put, List.setIfInBounds_toArray, List.set_cons_zero, List.set_cons_succ, List.getElem_toArray, List.getElem_cons_zero, List.getElem_cons_succ]
        refine wpAnyH_take (i := 4) (v := ?_) rfl (by kernel_rfl) (by kernel_rfl) (by kernel_rfl) (fun _ _ _ h => h) (Or.inl ⟨by kernel_rfl, ?_⟩) (by assumption) ?_
        rotate_left
        · (intro w hSw; (try dsimp only at hSw); go_simp)
          try (with_reducible rfl)
        rotate_left
        try simp (maxSteps := 4000000) only [Act.put, List.setIfInBounds_toArray, List.set_cons_zero, List.set_cons_succ, List.getElem_toArray, List.getElem_cons_zero, List.getElem_cons_succ]
        refine wpAnyH_take (i := 5) (v := ?_) rfl (by kernel_rfl) (by kernel_rfl) (by kernel_rfl) (fun _ _ _ h => h) (Or.inl ⟨by kernel_rfl, ?_⟩) (by assumption) ?_
        rotate_left
        · (intro w hSw; (try dsimp only at hSw); go_simp)
          try (with_reducible rfl)
        rotate_left
        try simp (maxSteps := 4000000) only [Act.put, List.setIfInBounds_toArray, List.set_cons_zero, List.set_cons_succ, List.getElem_toArray, List.getElem_cons_zero, List.getElem_cons_succ]
        refine wpAnyH_take (i := 6) (v := ?_) rfl (by kernel_rfl) (by kernel_rfl) (by kernel_rfl) (fun _ _ _ h => h) (Or.inl ⟨by kernel_rfl, ?_⟩) (by assumption) ?_
        rotate_left
        · (intro w hSw; (try dsimp only at hSw); go_simp)
          try (with_reducible rfl)
        rotate_left
        try simp (maxSteps := 4000000) only [Act.put, List.setIfInBounds_toArray, List.set_cons_zero, List.set_cons_succ, List.getElem_toArray, List.getElem_cons_zero, List.getElem_cons_succ]
        refine wpAnyH_take (i := 7) (v := ?_) rfl (by kernel_rfl) (by kernel_rfl) (by kernel_rfl) (fun _ _ _ h => h) (Or.inl ⟨by kernel_rfl, ?_⟩) (by assumption) ?_
        rotate_left
        · (intro w hSw; (try dsimp only at hSw); go_simp)
          try (with_reducible rfl)
        rotate_left
        try simp (maxSteps := 4000000) only [Act.put, List.setIfInBounds_toArray, List.set_cons_zero, List.set_cons_succ, List.getElem_toArray, List.getElem_cons_zero, List.getElem_cons_succ]
        refine wpAnyH_take (i := 8) (v := ?_) rfl (by kernel_rfl) (by kernel_rfl) (by kernel_rfl) (fun _ _ _ h => h) (Or.inl ⟨by kernel_rfl, ?_⟩) (by assumption) ?_
        rotate_left
        · (intro w hSw; (try dsimp only at hSw); go_simp)
          try (with_reducible rfl)
        rotate_left
        try simp (maxSteps := 4000000) only [Act.put, List.setIfInBounds_toArray, List.set_cons_zero, List.set_cons_succ, List.getElem_toArray, List.getElem_cons_zero, List.getElem_cons_succ]
        refine wpAnyH_take (i := 9) (v := ?_) rfl (by kernel_rfl) (by kernel_rfl) (by kernel_rfl) (fun _ _ _ h => h) (Or.inl ⟨by kernel_rfl, ?_⟩) (by assumption) ?_
        rotate_left
        · (intro w hSw; (try dsimp only at hSw); go_simp)
          try (with_reducible rfl)
        rotate_left
        try simp (maxSteps := 4000000) only [Act.put, List.setIfInBounds_toArray, List.set_cons_zero, List.set_cons_succ, List.getElem_toArray, List.getElem_cons_zero, List.getElem_cons_succ]
        refine wpAnyH_take (i := 10) (v := ?_) rfl (by kernel_rfl) (by kernel_rfl) (by kernel_rfl) (fun _ _ _ h => h) (Or.inl ⟨by kernel_rfl, ?_⟩) (by assumption) ?_
        rotate_left
        · (intro w hSw; (try dsimp only at hSw); go_simp)
          try (with_reducible rfl)
        rotate_left
        try simp (maxSteps := 4000000) only [Act.put, List.setIfInBounds_toArray, List.set_cons_zero, List.set_cons_succ, List.getElem_toArray, List.getElem_cons_zero, List.getElem_cons_succ]
        refine wpAnyH_take (i := 11) (v := ?_) rfl (by kernel_rfl) (by kernel_rfl) (by kernel_rfl) (fun _ _ _ h => h) (Or.inl ⟨by kernel_rfl, ?_⟩) (by assumption) ?_
        rotate_left
        · (intro w hSw; (try dsimp only at hSw); go_simp)
          try (with_reducible rfl)
        rotate_left
        try simp (maxSteps := 4000000) only [Act.put, List.setIfInBounds_toArray, List.set_cons_zero, List.set_cons_succ, List.getElem_toArray, List.getElem_cons_zero, List.getElem_cons_succ]
        refine wpAnyH_take (i := 12) (v := ?_) rfl (by kernel_rfl) (by kernel_rfl) (by kernel_rfl) (fun _ _ _ h => h) (Or.inl ⟨by kernel_rfl, ?_⟩) (by assumption) ?_
        rotate_left
        · (intro w hSw; (try dsimp only at hSw); go_simp)
          try (with_reducible rfl)
        rotate_left
        try simp (maxSteps := 4000000) only [Act.put, List.setIfInBounds_toArray, List.set_cons_zero, List.set_cons_succ, List.getElem_toArray, List.getElem_cons_zero, List.getElem_cons_succ]
        refine wpAnyH_take (i := 13) (v := ?_) rfl (by kernel_rfl) (by kernel_rfl) (by kernel_rfl) (fun _ _ _ h => h) (Or.inl ⟨by kernel_rfl, ?_⟩) (by assumption) ?_
        rotate_left
        · (intro w hSw; (try dsimp only at hSw); go_simp)
          try (with_reducible rfl)
        rotate_left
        try simp (maxSteps := 4000000) only [Act.put, List.setIfInBounds_toArray, List.set_cons_zero, List.set_cons_succ, List.getElem_toArray, List.getElem_cons_zero, List.getElem_cons_succ]
        refine wpAnyH_take (i := 14) (v := ?_) rfl (by kernel_rfl) (by kernel_rfl) (by kernel_rfl) (fun _ _ _ h => h) (Or.inl ⟨by kernel_rfl, ?_⟩) (by assumption) ?_
        rotate_left
        · (intro w hSw; (try dsimp only at hSw); go_simp)
          try (with_reducible rfl)
        rotate_left
        try simp (maxSteps := 4000000) only [Act.put, List.setIfInBounds_toArray, List.set_cons_zero, List.set_cons_succ, List.getElem_toArray, List.getElem_cons_zero, List.getElem_cons_succ]
        refine wpAnyH_take (i := 15) (v := ?_) rfl (by kernel_rfl) (by kernel_rfl) (by kernel_rfl) (fun _ _ _ h => h) (Or.inl ⟨by kernel_rfl, ?_⟩) (by assumption) ?_
        rotate_left
        · (intro w hSw; (try dsimp only at hSw); go_simp)
          try (with_reducible rfl)
        rotate_left
        try simp (maxSteps := 4000000) only [Act.put, List.setIfInBounds_toArray, List.set_cons_zero, List.set_cons_succ, List.getElem_toArray, List.getElem_cons_zero, List.getElem_cons_succ]
        refine wpAnyH_take (i := 16) (v := ?_) rfl (by kernel_rfl) (by kernel_rfl) (by kernel_rfl) (fun _ _ _ h => h) (Or.inl ⟨by kernel_rfl, ?_⟩) (by assumption) ?_
        rotate_left
        · (intro w hSw; (try dsimp only at hSw); go_simp)
          try (with_reducible rfl)
        rotate_left
        try simp (maxSteps := 4000000) only [Act.put, List.setIfInBounds_toArray, List.set_cons_zero, List.set_cons_succ, List.getElem_toArray, List.getElem_cons_zero, List.getElem_cons_succ]
        refine wpAnyH_ready (rs := [17]) (by kernel_rfl) (by simp) ?_
        refine AllReadyH.cons rfl (fun K2 hK2 => ?_) AllReadyH.nil
        go_simp
        refine hK2.out _ _ ⟨(World.cell?_alloc_lt _ _ _ (show z < _ from hzd)).trans hHeld.1, (World.cell?_alloc_lt _ _ _ (show z < _ from hzd)).trans hHeld.2.1, (World.cell?_alloc_lt _ _ _ (show z < _ from hzd)).trans hHeld.2.2⟩ (fun hHeld2 => ?_)
        clear hK2 K2 hHeld
        have hHeld := hHeld2
        clear hHeld2
        try simp (maxSteps := 4000000) only [Act.put, List.setIfInBounds_toArray, List.set_cons_zero, List.set_cons_succ]
        refine wpAnyH_ready (rs := [18]) (by kernel_rfl) (by simp) ?_
        refine AllReadyH.cons rfl (fun K2 hK2 => ?_) AllReadyH.nil
        refine step_append_lies _ rfl _ _ 37 rfl w.heap.size 5 i0 (.int .u8 0) 1 1 Try.underlying37 hi hz0 hz1 hz2 rfl (by decide) (.slice (some ⟨q, 0, none⟩) 4 ca) 4 (WL 1 [X00, X01, X02] [X10, X11, X12] [X20, X21, X22]) rfl (HOd.out.alloc _) ⟨wd.heap.size, 0, none⟩ 3 3 [.int .u8 (X10 : Int), .int .u8 (X11 : Int), .int .u8 (X12 : Int)] rfl rfl ?_ ?_ (by omega) ?_ ?_ ?_ _ rfl ?_
        · exact cells3_new _ _ _ _ _
        · simp [Value.oneCell']
        · decide
        · omega
        · have := HBd.out.size; simp; omega
        intro q' ca' w' hown hgrow hat hlt
        have hq' : q' = q ∨ q' = wd.heap.size + 1 := by
          rcases hat with h | h
          · exact .inl (Option.some.inj (show some q = some q' from h)).symm
          · right; rw [h]; simp
        obtain ⟨q1, q2, q3, q4⟩ := HCd.out.lts
        have HCn := Lib.hid ((HCd.out.below (alc0 wd _)).grown hgrow hqx.symm hqy.symm hqz.symm hqg.symm)
        have HBn := Lib.hid ((alc HBd.out _).grown hgrow (by have := HBd.out.size; simp; omega) (fun j hj => (HOd.out.lt j hj).1))
        have hown' : Hid (w'.ownsRow w.heap.size 5 1 (.slice (some ⟨q', 0, none⟩) 7 ca') 7 (WL 2 [X00, X01, X02] [X10, X11, X12] [X20, X21, X22])) := Lib.hid (by exact hown)
        clear hown hgrow hat HCd HBd HOd
        refine hK2.out _ _ HCn.out.2.2.1.2 (fun hHeld2 => ?_)
        clear hK2 K2 hHeld
        have hHeld := hHeld2
        clear hHeld2
        try simp (maxSteps := 4000000) only [Act.put, List.setIfInBounds_toArray, List.set_cons_zero, List.set_cons_succ]
        refine wpAnyH_take (i := 19) (v := ?_) rfl (by kernel_rfl) (by kernel_rfl) (by kernel_rfl) (fun _ _ _ h => h) (Or.inl ⟨by kernel_rfl, ?_⟩) (by assumption) ?_
        rotate_left
        · (intro w hSw; (try dsimp only at hSw); go_simp)
          try (with_reducible rfl)
        rotate_left
        try simp (maxSteps := 4000000) only [Act.put, List.setIfInBounds_toArray, List.set_cons_zero, List.set_cons_succ, List.getElem_toArray, List.getElem_cons_zero, List.getElem_cons_succ]
        refine wpAnyH_done (by kernel_rfl) ?_ _
        go_wp2_with fail
        go_roundw
        case rel => exact ⟨2, q', ca', 7, by omega, by omega, rfl, rfl, hown', by omega, by omega, by omega, by omega, hlt, HCn, HBn⟩
        case measure => simp [intOf]
      · as_aux_lemma =>
        obtain rfl : m = 7 := by omega
        clear hm
        go_upto_region 11 with (fail)
        have HOd : Hid (wr.drew.ownsRow w.heap.size 5 1 (.slice (some ⟨q, 0, none⟩) 7 ca) 7 (WL 2 [X00, X01, X02] [X10, X11, X12] [X20, X21, X22])) := Lib.hid HO.out.drew
        have HCd := Lib.hid (HCB.out.below (Below.refl _ _).drew)
        have HBd := Lib.hid HBr.out.drew
        have hqd : q < wr.drew.heap.size := hqs
        obtain ⟨wd, hwd⟩ : ∃ wd, wr.drew = wd := ⟨_, rfl⟩
        refine wp_region_held_drew (S := fun w' => w'.cell? ⟨z, 0, none⟩ = some (.int .i64 N0) ∧ w'.cell? ⟨z, 1, none⟩ = some (.int .i64 N1) ∧ w'.cell? ⟨z, 2, none⟩ = some (.int .i64 N2)) (by kernel_rfl) ⟨c0, c1, c2⟩ (fun hHeld => ?_)
        rw [hwd] at HOd HCd HBd hqd hHeld ⊢
        have hzd := HCd.out.2.2.1.1
        clear hwd HO HCB HBr hqs c0 c1 c2
        refine wpAnyH_take (i := 0) (v := ?_) rfl (by kernel_rfl) (by kernel_rfl) (by kernel_rfl) (fun _ _ _ h => h) (Or.inl ⟨by kernel_rfl, ?_⟩) (by assumption) ?_
        rotate_left
        · (intro w hSw; (try dsimp only at hSw); go_simp)
          try (with_reducible rfl)
        rotate_left
        try simp (maxSteps := 4000000) only [Act.put, List.setIfInBounds_toArray, List.set_cons_zero, List.set_cons_succ, List.getElem_toArray, List.getElem_cons_zero, List.getElem_cons_succ]
        refine wpAnyH_take (i := 1) (v := ?_) rfl (by kernel_rfl) (by kernel_rfl) (by kernel_rfl) (fun _ _ _ h => h) (Or.inl ⟨by kernel_rfl, ?_⟩) (by assumption) ?_
        rotate_left
        · (intro w hSw; (try dsimp only at hSw); go_simp)
          try (with_reducible rfl)
        rotate_left
        try simp (maxSteps := 4000000) only [Act.put, List.setIfInBounds_toArray, List.set_cons_zero, List.set_cons_succ, List.getElem_toArray, List.getElem_cons_zero, List.getElem_cons_succ]
        refine wpAnyH_take (i := 2) (v := ?_) rfl (by kernel_rfl) (by kernel_rfl) (by kernel_rfl) (fun _ _ _ h => h) (Or.inl ⟨by kernel_rfl, ?_⟩) (by assumption) ?_
        rotate_left
        · (intro w hSw; (try dsimp only at hSw); go_simp)
          try (with_reducible rfl)
        rotate_left
        try simp (maxSteps := 4000000) only [Act.put, List.setIfInBounds_toArray, List.set_cons_zero, List.set_cons_succ, List.getElem_toArray, List.getElem_cons_zero, List.getElem_cons_succ]
        refine wpAnyH_take (i := 3) (v := ?_) rfl (by kernel_rfl) (by kernel_rfl) (by kernel_rfl) (fun _ _ _ h => h) (Or.inl ⟨by kernel_rfl, ?_⟩) (by assumption) ?_
        rotate_left
        · (intro w hSw; (try dsimp only at hSw); go_simp)
          try (with_reducible rfl)
        rotate_left
        try simp (maxSteps := 4000000) only [Act.put, List.setIfInBounds_toArray, List.set_cons_zero, List.set_cons_succ, List.getElem_toArray, List.getElem_cons_zero, List.getElem_cons_succ]
        refine wpAnyH_take (i := 4) (v := ?_) rfl (by kernel_rfl) (by kernel_rfl) (by kernel_rfl) (fun _ _ _ h => h) (Or.inl ⟨by kernel_rfl, ?_⟩) (by assumption) ?_
        rotate_left
        · (intro w hSw; (try dsimp only at hSw); go_simp)
          try (with_reducible rfl)
        rotate_left
        try simp (maxSteps := 4000000) only [Act.put, List.setIfInBounds_toArray, List.set_cons_zero, List.set_cons_succ, List.getElem_toArray, List.getElem_cons_zero, List.getElem_cons_succ]
        refine wpAnyH_take (i := 5) (v := ?_) rfl (by kernel_rfl) (by kernel_rfl) (by kernel_rfl) (fun _ _ _ h => h) (Or.inl ⟨by kernel_rfl, ?_⟩) (by assumption) ?_
        rotate_left
        · (intro w hSw; (try dsimp only at hSw); go_simp)
          try (with_reducible rfl)
        rotate_left
        try simp (maxSteps := 4000000) only [Act.put, List.setIfInBounds_toArray, List.set_cons_zero, List.set_cons_succ, List.getElem_toArray, List.getElem_cons_zero, List.getElem_cons_succ]
        refine wpAnyH_take (i := 6) (v := ?_) rfl (by kernel_rfl) (by kernel_rfl) (by kernel_rfl) (fun _ _ _ h => h) (Or.inl ⟨by kernel_rfl, ?_⟩) (by assumption) ?_
        rotate_left
        · (intro w hSw; (try dsimp only at hSw); go_simp)
          try (with_reducible rfl)
        rotate_left
        try simp (maxSteps := 4000000) only [Act.put, List.setIfInBounds_toArray, List.set_cons_zero, List.set_cons_succ, List.getElem_toArray, List.getElem_cons_zero, List.getElem_cons_succ]
        refine wpAnyH_take (i := 7) (v := ?_) rfl (by kernel_rfl) (by kernel_rfl) (by kernel_rfl) (fun _ _ _ h => h) (Or.inl ⟨by kernel_rfl, ?_⟩) (by assumption) ?_
        rotate_left
        · (intro w hSw; (try dsimp only at hSw); go_simp)
          try (with_reducible rfl)
        rotate_left
        try simp (maxSteps := 4000000) only [Act.put, List.setIfInBounds_toArray, List.set_cons_zero, List.set_cons_succ, List.getElem_toArray, List.getElem_cons_zero, List.getElem_cons_succ]
        refine wpAnyH_take (i := 8) (v := ?_) rfl (by kernel_rfl) (by kernel_rfl) (by kernel_rfl) (fun _ _ _ h => h) (Or.inl ⟨by kernel_rfl, ?_⟩) (by assumption) ?_
        rotate_left
        · (intro w hSw; (try dsimp only at hSw); go_simp)
          try (with_reducible rfl)
        rotate_left
        try simp (maxSteps := 4000000) only [Act.put, List.setIfInBounds_toArray, List.set_cons_zero, List.set_cons_succ, List.getElem_toArray, List.getElem_cons_zero, List.getElem_cons_succ]
        refine wpAnyH_take (i := 9) (v := ?_) rfl (by kernel_rfl) (by kernel_rfl) (by kernel_rfl) (fun _ _ _ h => h) (Or.inl ⟨by kernel_rfl, ?_⟩) (by assumption) ?_
        rotate_left
        · (intro w hSw; (try dsimp only at hSw); go_simp)
          try (with_reducible rfl)
        rotate_left
        try simp (maxSteps := 4000000) only [Act.put, List.setIfInBounds_toArray, List.set_cons_zero, List.set_cons_succ, List.getElem_toArray, List.getElem_cons_zero, List.getElem_cons_succ]
        refine wpAnyH_take (i := 10) (v := ?_) rfl (by kernel_rfl) (by kernel_rfl) (by kernel_rfl) (fun _ _ _ h => h) (Or.inl ⟨by kernel_rfl, ?_⟩) (by assumption) ?_
        rotate_left
        · (intro w hSw; (try dsimp only at hSw); go_simp)
          try (with_reducible rfl)
        rotate_left
        try simp (maxSteps := 4000000) only [Act.put, List.setIfInBounds_toArray, List.set_cons_zero, List.set_cons_succ, List.getElem_toArray, List.getElem_cons_zero, List.getElem_cons_succ]
        refine wpAnyH_take (i := 11) (v := ?_) rfl (by kernel_rfl) (by kernel_rfl) (by kernel_rfl) (fun _ _ _ h => h) (Or.inl ⟨by kernel_rfl, ?_⟩) (by assumption) ?_
        rotate_left
        · (intro w hSw; (try dsimp only at hSw); go_simp)
          try (with_reducible rfl)
        rotate_left
        try simp (maxSteps := 4000000) only [Act.put, List.setIfInBounds_toArray, List.set_cons_zero, List.set_cons_succ, List.getElem_toArray, List.getElem_cons_zero, List.getElem_cons_succ]
        refine wpAnyH_take (i := 12) (v := ?_) rfl (by kernel_rfl) (by kernel_rfl) (by kernel_rfl) (fun _ _ _ h => h) (Or.inl ⟨by kernel_rfl, ?_⟩) (by assumption) ?_
        rotate_left
        · (intro w hSw; (try dsimp only at hSw); go_simp)
          try (with_reducible rfl)
        rotate_left
        try simp (maxSteps := 4000000) only [Act.put, List.setIfInBounds_toArray, List.set_cons_zero, List.set_cons_succ, List.getElem_toArray, List.getElem_cons_zero, List.getElem_cons_succ]
        refine wpAnyH_take (i := 13) (v := ?_) rfl (by kernel_rfl) (by kernel_rfl) (by kernel_rfl) (fun _ _ _ h => h) (Or.inl ⟨by kernel_rfl, ?_⟩) (by assumption) ?_
        rotate_left
        · (intro w hSw; (try dsimp only at hSw); go_simp)
          try (with_reducible rfl)
        rotate_left
        try simp (maxSteps := 4000000) only [Act.put, List.setIfInBounds_toArray, List.set_cons_zero, List.set_cons_succ, List.getElem_toArray, List.getElem_cons_zero, List.getElem_cons_succ]
        refine wpAnyH_take (i := 14) (v := ?_) rfl (by kernel_rfl) (by kernel_rfl) (by kernel_rfl) (fun _ _ _ h => h) (Or.inl ⟨by kernel_rfl, ?_⟩) (by assumption) ?_
        rotate_left
        · (intro w hSw; (try dsimp only at hSw); go_simp)
          try (with_reducible rfl)
        rotate_left
        try simp (maxSteps := 4000000) only [Act.put, List.setIfInBounds_toArray, List.set_cons_zero, List.set_cons_succ, List.getElem_toArray, List.getElem_cons_zero, List.getElem_cons_succ]
        refine wpAnyH_take (i := 15) (v := ?_) rfl (by kernel_rfl) (by kernel_rfl) (by kernel_rfl) (fun _ _ _ h => h) (Or.inl ⟨by kernel_rfl, ?_⟩) (by assumption) ?_
        rotate_left
        · (intro w hSw; (try dsimp only at hSw); go_simp)
          try (with_reducible rfl)
        rotate_left
        try simp (maxSteps := 4000000) only [Act.put, List.setIfInBounds_toArray, List.set_cons_zero, List.set_cons_succ, List.getElem_toArray, List.getElem_cons_zero, List.getElem_cons_succ]
        refine wpAnyH_take (i := 16) (v := ?_) rfl (by kernel_rfl) (by kernel_rfl) (by kernel_rfl) (fun _ _ _ h => h) (Or.inl ⟨by kernel_rfl, ?_⟩) (by assumption) ?_
        rotate_left
        · (intro w hSw; (try dsimp only at hSw); go_simp)
          try (with_reducible rfl)
        rotate_left
        try simp (maxSteps := 4000000) only [Act.put, List.setIfInBounds_toArray, List.set_cons_zero, List.set_cons_succ, List.getElem_toArray, List.getElem_cons_zero, List.getElem_cons_succ]
        refine wpAnyH_ready (rs := [17]) (by kernel_rfl) (by simp) ?_
        refine AllReadyH.cons rfl (fun K2 hK2 => ?_) AllReadyH.nil
        go_simp
        refine hK2.out _ _ ⟨(World.cell?_alloc_lt _ _ _ (show z < _ from hzd)).trans hHeld.1, (World.cell?_alloc_lt _ _ _ (show z < _ from hzd)).trans hHeld.2.1, (World.cell?_alloc_lt _ _ _ (show z < _ from hzd)).trans hHeld.2.2⟩ (fun hHeld2 => ?_)
        clear hK2 K2 hHeld
        have hHeld := hHeld2
        clear hHeld2
        try simp (maxSteps := 4000000) only [Act.put, List.setIfInBounds_toArray, List.set_cons_zero, List.set_cons_succ]
        refine wpAnyH_ready (rs := [18]) (by kernel_rfl) (by simp) ?_
        refine AllReadyH.cons rfl (fun K2 hK2 => ?_) AllReadyH.nil
        refine step_append_lies _ rfl _ _ 37 rfl w.heap.size 5 i0 (.int .u8 0) 1 1 Try.underlying37 hi hz0 hz1 hz2 rfl (by decide) (.slice (some ⟨q, 0, none⟩) 7 ca) 7 (WL 2 [X00, X01, X02] [X10, X11, X12] [X20, X21, X22]) rfl (HOd.out.alloc _) ⟨wd.heap.size, 0, none⟩ 3 3 [.int .u8 (X20 : Int), .int .u8 (X21 : Int), .int .u8 (X22 : Int)] rfl rfl ?_ ?_ (by omega) ?_ ?_ ?_ _ rfl ?_
        · exact cells3_new _ _ _ _ _
        · simp [Value.oneCell']
        · decide
        · omega
        · have := HBd.out.size; simp; omega
        intro q' ca' w' hown hgrow hat hlt
        have hq' : q' = q ∨ q' = wd.heap.size + 1 := by
          rcases hat with h | h
          · exact .inl (Option.some.inj (show some q = some q' from h)).symm
          · right; rw [h]; simp
        obtain ⟨q1, q2, q3, q4⟩ := HCd.out.lts
        have HCn := Lib.hid ((HCd.out.below (alc0 wd _)).grown hgrow hqx.symm hqy.symm hqz.symm hqg.symm)
        have HBn := Lib.hid ((alc HBd.out _).grown hgrow (by have := HBd.out.size; simp; omega) (fun j hj => (HOd.out.lt j hj).1))
        have hown' : Hid (w'.ownsRow w.heap.size 5 1 (.slice (some ⟨q', 0, none⟩) 10 ca') 10 (WL 3 [X00, X01, X02] [X10, X11, X12] [X20, X21, X22])) := Lib.hid (by exact hown)
        clear hown hgrow hat HCd HBd HOd
        refine hK2.out _ _ HCn.out.2.2.1.2 (fun hHeld2 => ?_)
        clear hK2 K2 hHeld
        have hHeld := hHeld2
        clear hHeld2
        try simp (maxSteps := 4000000) only [Act.put, List.setIfInBounds_toArray, List.set_cons_zero, List.set_cons_succ]
        refine wpAnyH_take (i := 19) (v := ?_) rfl (by kernel_rfl) (by kernel_rfl) (by kernel_rfl) (fun _ _ _ h => h) (Or.inl ⟨by kernel_rfl, ?_⟩) (by assumption) ?_
        rotate_left
        · (intro w hSw; (try dsimp only at hSw); go_simp)
          try (with_reducible rfl)
        rotate_left
        try simp (maxSteps := 4000000) only [Act.put, List.setIfInBounds_toArray, List.set_cons_zero, List.set_cons_succ, List.getElem_toArray, List.getElem_cons_zero, List.getElem_cons_succ]
        refine wpAnyH_done (by kernel_rfl) ?_ _
        go_wp2_with fail
        go_roundw
        case rel => exact ⟨3, q', ca', 10, by omega, by omega, rfl, rfl, hown', by omega, by omega, by omega, by omega, hlt, HCn, HBn⟩
        case measure => simp [intOf]
      · obtain rfl : m = 10 := by omega
        clear hm ea1 ea2 ea3 ea4 ea5 ea6 ea7 ea8 ea9 ea10 ea11 ea12 ea13 eb1 eb2 eb3 eb4 eb5 eb6 eb7 eb8 eb9 eb10 eb11 eb12 eb13 ed1 ed2 ed3 ed4 ed5 ed6 ed7 ed8 ed9 ed10 ed11 ed12 ed13 c0 c1 c2
        obtain ⟨_, k0, k1, k2, k3, k4, k5, kf⟩ := HCB.out.1
        go_upto_region 12 with (fail)
        go_wp2_with (at_builtin; refine wpList_append_lies _ rfl _ _ 37 rfl w.heap.size 5 i0 (.int .u8 0) 1 1 Try.underlying37 hi hz0 hz1 hz2 rfl (by decide) (.slice (some ⟨q, 0, none⟩) 10 ca) 10 (WL 3 [X00, X01, X02] [X10, X11, X12] [X20, X21, X22]) rfl (HO.out.alloc _) ⟨wr.heap.size, 0, none⟩ 6 6 [.int .u8 P, .int .u8 T, .int .u8 0, .int .u8 0, .int .u8 0, .int .u8 0] rfl rfl ?e1 ?e2 ?e6 ?e3 ?e4 ?e5 _ rfl ?_)
        case e1 => exact cells6_new _ _ _ _ _ _ _ _
        case e2 => simp [Value.oneCell']
        case e6 => omega
        case e3 => decide
        case e4 => omega
        case e5 => have := HBr.out.size; simp; omega
        intro q' ca' w' hown hgrow hat hlt
        have HCn := Lib.hid ((HCB.out.below (alc0 wr _)).grown hgrow hqx.symm hqy.symm hqz.symm hqg.symm)
        have HBn := Lib.hid ((alc HBr.out _).grown hgrow (by have := HBr.out.size; simp; omega) (fun j hj => (HO.out.lt j hj).1))
        have hrow : RowU q' 16 w' f := by
          rw [← HF.out]
          refine row_own (base := w.heap.size) (cap := ca') hlt ?_
          rw [HTS.out.1, HTS.out.2.1, HTS.out.2.2]
          exact hown
        have HRW := Lib.hid hrow
        clear hown hgrow hat hrow HCB HBr HO k0 k1 k2 k3 k4 k5 kf
        go_wp2_with fail
        refine (c11awake _).mono ?_
        rintro e w9 ⟨rfl, hb⟩
        have HC9 := Lib.hid (HCn.out.below hb)
        have HB9 := Lib.hid (thn HBn.out hb)
        have hc1 := conv_row HC9.out.2.2.2 16
        have hc2 := conv_row (HRW.out.below hb) ca'
        obtain ⟨S0, hS0⟩ : ∃ S0, strU f 16 = S0 := ⟨_, rfl⟩
        rw [hS0] at hc1 hc2
        clear hS0 hb HCn HBn HRW
        obtain ⟨⟨_, k0, k1, k2, k3, k4, k5, kf⟩, ⟨_, j0, j1, j2, j3, j4, j5, jf⟩, _, _⟩ := HC9.out
        go_wp2
        go_ret
        exact ⟨ret_bool (by simp), HB9.out⟩
theorem walkCodeBack (a0_0 : Int) (a0_1 : Int) (a0_2 : Int) (a0_3 : Int) (a0_4 : Int) (a0_5 : Bool) (a1 : Int) (w : World) (w0_0 : (Lit.int .i64 a0_0).wf = true) (w0_1 : (Lit.int .i64 a0_1).wf = true) (w0_2 : (Lit.int .i64 a0_2).wf = true) (w0_3 : (Lit.int .i64 a0_3).wf = true) (w0_4 : (Lit.int .i64 a0_4).wf = true) (w1 : (Lit.int .i64 a1).wf = true) :
    Calls Try.prog 5 #[.agg #[.int .i64 a0_0, .int .i64 a0_1, .int .i64 a0_2, .int .i64 a0_3, .int .i64 a0_4, .bool a0_5], .int .i64 a1] w fun e w' => e = .returned (.bool true) ∧ Below w.heap.size w w' := by
  exact walkCodeBackX _ _ _ _ _ _ _ w
end Go.Proofs.Ytcknbbffeeldpaa
