/- The document's own memory: a page anew. -/
import Derived.Test.YtgidnmjeifgciaaDoorMrA
namespace Go.Proofs.YtgidnmjeifgciaaDoor
set_option maxRecDepth 100000
open Go.RowKit Go.ChangeMaps Go.MapKept
set_option linter.unusedVariables false
set_option linter.unusedSimpArgs false

def zv (i : Nat) : Value := if i % 6 = 5 then .bool false else .int .i64 0
/-- Page p is open, or not; of its bytes those below 256 p + i are noughts, and of its granules those below 16 p + j are new. -/
def freshN (r : RS) (p : Nat) (o : Bool) (i j : Nat) : RS :=
  { o := fun y => if y = p then o else r.o y, b := fun x => if 256 * p ≤ x ∧ x < 256 * p + i then 0 else r.b x, t := fun g => if 16 * p ≤ g ∧ g < 16 * p + j then 0 else r.t g,
    k := fun g => if 16 * p ≤ g ∧ g < 16 * p + j then false else r.k g, v := fun x => if 96 * p ≤ x ∧ x < 96 * p + 6 * j then zv x else r.v x }
theorem freshN_one {r : RS} (h : r.One) (p : Nat) (o : Bool) (i j : Nat) : (freshN r p o i j).One := fun x hx => by
  unfold freshN
  dsimp only
  split
  · unfold zv; split <;> rfl
  · exact h x hx
theorem RAt.setm {A : Nat} {W : World} {r r' : RS} (h : RAt A W r) (o : Nat) (vs : List Value) (ho : o + vs.length ≤ 3080) (hin : ∀ j, j < vs.length → vs[j]? = some (r'.c (o + j))) (hout : ∀ i, i < 3080 → (i < o ∨ o + vs.length ≤ i) → r'.c i = r.c i) : RAt A (W.setCells A o vs) r' := by
  refine ⟨by rw [(ob_cells A vs o W).2]; exact h.1, fun i hi => ⟨?_, by rw [World.frozen?_setCells]; exact (h.2 i hi).2⟩⟩
  by_cases hc : o ≤ i ∧ i < o + vs.length
  · have h1 := World.cell?_setCells_in A vs o W (fun j hj => by rw [(h.2 (o + j) (by omega)).1]; rfl) (i - o) (by omega)
    rw [show o + (i - o) = i by omega] at h1
    rw [h1]
    have h2 := hin (i - o) (by omega)
    rw [show o + (i - o) = i by omega] at h2
    rw [← h2]
    simp
  · rw [World.cell?_setCells_out A vs o W ⟨A, i, none⟩ (fun _ _ => by show i < o ∨ o + vs.length ≤ i; omega), hout i hi (by omega)]
    exact (h.2 i hi).1
theorem fresh_o {A p : Nat} {o : Bool} {W : World} {r : RS} (h : RAt A W r) (hp : p < 8) : RAt A (W.setCell ⟨A, p, none⟩ (.bool o)) (freshN r p o 0 0) := by
  refine h.set_ (by omega) ?_ (fun n hn hne => ?_)
  · rw [RS.co _ hp]; show Value.bool (if p = p then o else r.o p) = .bool o; rw [if_pos rfl]
  · unfold RS.c
    by_cases a1 : n < 8
    · rw [if_pos a1, if_pos a1]
      show Value.bool (if n = p then o else r.o n) = _
      rw [if_neg hne]
    · rw [if_neg a1, if_neg a1]
      have e1 : (freshN r p o 0 0).b (n - 8) = r.b (n - 8) := if_neg (by omega)
      have e2 : (freshN r p o 0 0).t (n - 2056) = r.t (n - 2056) := if_neg (by omega)
      have e3 : (freshN r p o 0 0).k (n - 2184) = r.k (n - 2184) := if_neg (by omega)
      have e4 : (freshN r p o 0 0).v (n - 2312) = r.v (n - 2312) := if_neg (by omega)
      rw [e1, e2, e3, e4]
theorem fresh_b {A p i : Nat} {o : Bool} {W : World} {r : RS} (h : RAt A W (freshN r p o i 0)) (hp : p < 8) (hi : i < 256) : RAt A (W.setCell ⟨A, 8 + (256 * p + i), none⟩ (.int .u8 0)) (freshN r p o (i + 1) 0) := by
  refine h.set_ (by omega) ?_ (fun n hn hne => ?_)
  · rw [RS.cb _ (by omega)]
    have : (freshN r p o (i + 1) 0).b (256 * p + i) = 0 := if_pos (by omega)
    rw [this]
    rfl
  · unfold RS.c
    have e1 : (freshN r p o (i + 1) 0).o n = (freshN r p o i 0).o n := rfl
    have e2 : (freshN r p o (i + 1) 0).t = (freshN r p o i 0).t := rfl
    have e3 : (freshN r p o (i + 1) 0).k = (freshN r p o i 0).k := rfl
    have e4 : (freshN r p o (i + 1) 0).v = (freshN r p o i 0).v := rfl
    by_cases a1 : n < 8
    · rw [if_pos a1, if_pos a1, e1]
    · by_cases a2 : n < 2056
      · have e5 : (freshN r p o (i + 1) 0).b (n - 8) = (freshN r p o i 0).b (n - 8) := by
          unfold freshN
          dsimp only
          by_cases a3 : 256 * p ≤ n - 8 ∧ n - 8 < 256 * p + i
          · rw [if_pos a3, if_pos (by omega)]
          · rw [if_neg a3, if_neg (by omega)]
        rw [if_neg a1, if_neg a1, if_pos a2, if_pos a2, e5]
      · rw [if_neg a1, if_neg a1, if_neg a2, if_neg a2, e2, e3, e4]
theorem capInfo : (Tryd.prog.info? 31).map (·.size) = some 6 := by kernel_rfl
abbrev capZ : List Value := [.int .i64 0, .int .i64 0, .int .i64 0, .int .i64 0, .int .i64 0, .bool false]
theorem capOne : (#[.int .i64 0, .int .i64 0, .int .i64 0, .int .i64 0, .int .i64 0, .bool false] : Array Value).all (·.oneCell') = true := by simp [Value.oneCell']
theorem fresh_g {A p j : Nat} {o : Bool} {W : World} {r : RS} (h : RAt A W (freshN r p o 256 j)) (hp : p < 8) (hj : j < 16) :
    RAt A (((W.setCell ⟨A, 2056 + (16 * p + j), none⟩ (.int .i64 0)).setCell ⟨A, 2184 + (16 * p + j), none⟩ (.bool false)).setCells A (2312 + 6 * (16 * p + j)) capZ) (freshN r p o 256 (j + 1)) := by
  have h1 : RAt A (W.setCell ⟨A, 2056 + (16 * p + j), none⟩ (.int .i64 0)) { freshN r p o 256 j with t := (freshN r p o 256 (j + 1)).t } := by
    refine h.set_ (by omega) ?_ (fun n hn hne => ?_)
    · rw [RS.ct _ (by omega)]
      have : (freshN r p o 256 (j + 1)).t (16 * p + j) = 0 := if_pos (by omega)
      show Value.int .i64 ((freshN r p o 256 (j + 1)).t (16 * p + j)) = _
      rw [this]
    · unfold RS.c
      by_cases a1 : n < 8
      · rw [if_pos a1, if_pos a1]
      · by_cases a2 : n < 2056
        · rw [if_neg a1, if_neg a1, if_pos a2, if_pos a2]
        · by_cases a3 : n < 2184
          · have e5 : (freshN r p o 256 (j + 1)).t (n - 2056) = (freshN r p o 256 j).t (n - 2056) := by
              unfold freshN
              dsimp only
              by_cases a4 : 16 * p ≤ n - 2056 ∧ n - 2056 < 16 * p + j
              · rw [if_pos a4, if_pos (by omega)]
              · rw [if_neg a4, if_neg (by omega)]
            rw [if_neg a1, if_neg a1, if_neg a2, if_neg a2, if_pos a3, if_pos a3]
            exact congrArg (Value.int .i64) e5
          · rw [if_neg a1, if_neg a1, if_neg a2, if_neg a2, if_neg a3, if_neg a3]
  have h2 : RAt A ((W.setCell ⟨A, 2056 + (16 * p + j), none⟩ (.int .i64 0)).setCell ⟨A, 2184 + (16 * p + j), none⟩ (.bool false)) { freshN r p o 256 j with t := (freshN r p o 256 (j + 1)).t, k := (freshN r p o 256 (j + 1)).k } := by
    refine h1.set_ (by omega) ?_ (fun n hn hne => ?_)
    · rw [RS.ck _ (by omega)]
      have : (freshN r p o 256 (j + 1)).k (16 * p + j) = false := if_pos (by omega)
      show Value.bool ((freshN r p o 256 (j + 1)).k (16 * p + j)) = _
      rw [this]
    · unfold RS.c
      by_cases a1 : n < 8
      · rw [if_pos a1, if_pos a1]
      · by_cases a2 : n < 2056
        · rw [if_neg a1, if_neg a1, if_pos a2, if_pos a2]
        · by_cases a3 : n < 2184
          · rw [if_neg a1, if_neg a1, if_neg a2, if_neg a2, if_pos a3, if_pos a3]
          · by_cases a5 : n < 2312
            · have e5 : (freshN r p o 256 (j + 1)).k (n - 2184) = (freshN r p o 256 j).k (n - 2184) := by
                unfold freshN
                dsimp only
                by_cases a4 : 16 * p ≤ n - 2184 ∧ n - 2184 < 16 * p + j
                · rw [if_pos a4, if_pos (by omega)]
                · rw [if_neg a4, if_neg (by omega)]
              rw [if_neg a1, if_neg a1, if_neg a2, if_neg a2, if_neg a3, if_neg a3, if_pos a5, if_pos a5]
              exact congrArg Value.bool e5
            · rw [if_neg a1, if_neg a1, if_neg a2, if_neg a2, if_neg a3, if_neg a3, if_neg a5, if_neg a5]
  refine h2.setm _ capZ (by show _ + 6 ≤ _; omega) (fun q hq => ?_) (fun n hn hne => ?_)
  · have hq6 : q < 6 := hq
    rw [show 2312 + 6 * (16 * p + j) + q = 2312 + (6 * (16 * p + j) + q) by omega, RS.cv _ (by omega)]
    have : (freshN r p o 256 (j + 1)).v (6 * (16 * p + j) + q) = zv (6 * (16 * p + j) + q) := if_pos (by omega)
    rw [this]
    unfold zv
    have h6 : q = 0 ∨ q = 1 ∨ q = 2 ∨ q = 3 ∨ q = 4 ∨ q = 5 := by omega
    rcases h6 with rfl | rfl | rfl | rfl | rfl | rfl
    · rw [if_neg (by omega)]; rfl
    · rw [if_neg (by omega)]; rfl
    · rw [if_neg (by omega)]; rfl
    · rw [if_neg (by omega)]; rfl
    · rw [if_neg (by omega)]; rfl
    · rw [if_pos (by omega)]; rfl
  · have hne2 : n < 2312 + 6 * (16 * p + j) ∨ 2312 + 6 * (16 * p + j) + 6 ≤ n := hne
    unfold RS.c
    by_cases a1 : n < 8
    · rw [if_pos a1, if_pos a1]; rfl
    · by_cases a2 : n < 2056
      · rw [if_neg a1, if_neg a1, if_pos a2, if_pos a2]; rfl
      · by_cases a3 : n < 2184
        · rw [if_neg a1, if_neg a1, if_neg a2, if_neg a2, if_pos a3, if_pos a3]
        · by_cases a5 : n < 2312
          · rw [if_neg a1, if_neg a1, if_neg a2, if_neg a2, if_neg a3, if_neg a3, if_pos a5, if_pos a5]
          · rw [if_neg a1, if_neg a1, if_neg a2, if_neg a2, if_neg a3, if_neg a3, if_neg a5, if_neg a5]
            unfold freshN
            dsimp only
            by_cases a4 : 96 * p ≤ n - 2312 ∧ n - 2312 < 96 * p + 6 * j
            · rw [if_pos a4, if_pos (by omega)]
            · rw [if_neg a4, if_neg (by omega)]
set_option maxHeartbeats 1600000 in
theorem rfresh (r : RS) (hr : r.One) (p : Nat) (o : Bool) (hp : p < 8) (W : World) :
    Calls Tryd.prog 14 #[.agg r.l.toArray, .int .i64 (p : Int), .bool o] W fun e w' => e = .returned (.agg (freshN r p o 256 16).l.toArray) ∧ Below W.heap.size W w' := by
  obtain ⟨zv, zi⟩ := zero_of_info infoRz
  have HR1 := fun W => RAt.new W r 34
  have HR2 := fun W => RAt.new W zeroR 34
  have hZs : zeroR.l.toArray.size = 3080 := by rw [List.size_toArray, RS.len]
  have hLs : r.l.toArray.size = 3080 := by rw [List.size_toArray, RS.len]
  have hZ1 := RS.one zeroR_one
  have hL1 := RS.one hr
  have HN := Lib.hid hr
  clear hr
  generalize zeroR.l.toArray = Z at *
  generalize r.l.toArray = L at *
  go_enter Tryd.func14, Tryd.ntmps14
  go_upto_region 1 with (fail)
  have hA := (HR1 W).below (alc0 (W.alloc (.cells L 34)) (.cells Z 34))
  have hB := HR2 (W.alloc (.cells L 34))
  have hBel : Below W.heap.size W ((W.alloc (.cells L 34)).alloc (.cells Z 34)) := alc (alc0 _ _) _
  rw [World.size_alloc] at hB
  generalize (W.alloc (.cells L 34)).alloc (.cells Z 34) = w1 at *
  have k1 := (hA.2 p (by omega)).1
  have k2 := (hA.2 p (by omega)).2
  rw [RS.co _ hp] at k1
  have p0 : (0 : Int) ≤ (p : Int) := by omega
  have p1 : (p : Int) < 8 := by omega
  have HA : Hid (RAt W.heap.size (w1.setCell ⟨W.heap.size, p, none⟩ (.bool o)) (freshN r p o 0 0)) := Lib.hid (fresh_o hA hp)
  have HB : Hid (RAt (W.heap.size + 1) (w1.setCell ⟨W.heap.size, p, none⟩ (.bool o)) zeroR) := Lib.hid (hB.keep (by rw [size_set]; exact Nat.le_refl _) (heap_other _ _ _ _ (by show W.heap.size + 1 ≠ W.heap.size; omega)))
  have HBel : Hid (Below W.heap.size W (w1.setCell ⟨W.heap.size, p, none⟩ (.bool o))) := Lib.hid (hBel.setCell (Nat.le_refl _) _)
  clear hA hB hBel HR1 HR2
  go_wp2_with fail
  go_loopw [7] (fun v7 wr => ∃ x : Nat, 256 * p ≤ x ∧ x ≤ 256 * p + 256 ∧ v7 = .int .i64 x ∧ Hid (RAt W.heap.size wr (freshN r p o (x - 256 * p) 0)) ∧ Hid (RAt (W.heap.size + 1) wr zeroR) ∧ Hid (Below W.heap.size W wr)) (fun v7 _ => 256 * p + 256 - (intOf v7).toNat)
  case atStart => exact ⟨256 * p, by omega, by omega, congrArg (Value.int .i64) (by omega), by rw [Nat.sub_self]; exact HA, HB, HBel⟩
  case round =>
    clear HA HB HBel k1 k2
    obtain ⟨x, x1, x2, rfl, HA, HB, HBel⟩ := hrel
    by_cases hlt : x < 256 * p + 256
    · have l1 : (x : Int) < 256 * (p : Int) + 256 := by omega
      have q0 : (0 : Int) ≤ (x : Int) := by omega
      have q1 : (x : Int) < 2048 := by omega
      have q2 : (x : Int).toNat = x := Int.toNat_natCast x
      have k1 := (HA.out.2 (8 + x) (by omega)).1
      have k2 := (HA.out.2 (8 + x) (by omega)).2
      rw [RS.cb _ (by omega)] at k1
      have HA2 : Hid (RAt W.heap.size (wr.setCell ⟨W.heap.size, 8 + x, none⟩ (.int .u8 0)) (freshN r p o (x + 1 - 256 * p) 0)) := Lib.hid (by
        have := fresh_b (i := x - 256 * p) HA.out hp (by omega)
        rw [show 256 * p + (x - 256 * p) = x by omega, show x - 256 * p + 1 = x + 1 - 256 * p by omega] at this
        exact this)
      have HB2 : Hid (RAt (W.heap.size + 1) (wr.setCell ⟨W.heap.size, 8 + x, none⟩ (.int .u8 0)) zeroR) := Lib.hid (HB.out.keep (by rw [size_set]; exact Nat.le_refl _) (heap_other _ _ _ _ (by show W.heap.size + 1 ≠ W.heap.size; omega)))
      have HBel2 : Hid (Below W.heap.size W (wr.setCell ⟨W.heap.size, 8 + x, none⟩ (.int .u8 0))) := Lib.hid (HBel.out.setCell (Nat.le_refl _) _)
      clear HA HB HBel
      generalize (freshN r p o (x - 256 * p) 0).b x = bx at k1
      have HX := Lib.hid (And.intro x1 (And.intro x2 hlt))
      clear x1 x2 hlt
      go_wp2_with fail
      go_roundw
      case rel => exact ⟨x + 1, by have := HX.out; omega, by have := HX.out; omega, by go_num, HA2, HB2, HBel2⟩
      case measure => (have := HX.out; simp [intOf]; omega)
    · have l1 : ¬ (x : Int) < 256 * (p : Int) + 256 := by omega
      have HA1 : Hid (RAt W.heap.size wr (freshN r p o 256 0)) := Lib.hid (by
        have := HA.out
        rwa [show x - 256 * p = 256 by omega] at this)
      clear HA x1 x2 hlt
      rename World => wo
      go_wp2_with fail
      go_loopw [8] (fun v8 ws => ∃ g : Nat, 16 * p ≤ g ∧ g ≤ 16 * p + 16 ∧ v8 = .int .i64 g ∧ Hid (RAt W.heap.size ws (freshN r p o 256 (g - 16 * p))) ∧ Hid (RAt (W.heap.size + 1) ws zeroR) ∧ Hid (Below W.heap.size W ws)) (fun v8 _ => 16 * p + 16 - (intOf v8).toNat)
      case atStart => exact ⟨16 * p, by omega, by omega, congrArg (Value.int .i64) (by omega), by rw [Nat.sub_self]; exact HA1, HB, HBel⟩
      case round =>
        clear HA1 HB HBel l1
        obtain ⟨g, x1, x2, rfl, HA, HB, HBel⟩ := hrel
        by_cases hlt : g < 16 * p + 16
        · have l1 : (g : Int) < 16 * (p : Int) + 16 := by omega
          have q0 : (0 : Int) ≤ (g : Int) := by omega
          have q1 : (g : Int) < 128 := by omega
          have q2 : (g : Int).toNat = g := Int.toNat_natCast g
          have k1 := (HA.out.2 (2056 + g) (by omega)).1
          have k2 := (HA.out.2 (2056 + g) (by omega)).2
          rw [RS.ct _ (by omega)] at k1
          have k3 := (HA.out.2 (2184 + g) (by omega)).1
          have k4 := (HA.out.2 (2184 + g) (by omega)).2
          rw [RS.ck _ (by omega)] at k3
          have hnew := fresh_g (j := g - 16 * p) HA.out hp (by omega)
          rw [show 16 * p + (g - 16 * p) = g by omega, show g - 16 * p + 1 = g + 1 - 16 * p by omega, show 6 * g = g * 6 by omega] at hnew
          have HTH : Hid (((wr.setCell ⟨W.heap.size, 2056 + g, none⟩ (.int .i64 0)).setCell ⟨W.heap.size, 2184 + g, none⟩ (.bool false)).there W.heap.size (2312 + g * 6) (#[.int .i64 0, .int .i64 0, .int .i64 0, .int .i64 0, .int .i64 0, .bool false] : Array Value).size) := Lib.hid (fun j hj => by
            have hj6 : j < 6 := hj
            have h1 := HA.out.2 (2312 + g * 6 + j) (by omega)
            rw [World.cell?_setCell_other _ _ _ _ (by intro q; injection q with _ q; omega), World.cell?_setCell_other _ _ _ _ (by intro q; injection q with _ q; omega), World.frozen?_setCell, World.frozen?_setCell, h1.1]
            exact ⟨rfl, h1.2⟩)
          have HA2 := Lib.hid hnew
          have HO : Hid (OB W.heap.size wr (((wr.setCell ⟨W.heap.size, 2056 + g, none⟩ (.int .i64 0)).setCell ⟨W.heap.size, 2184 + g, none⟩ (.bool false)).setCells W.heap.size (2312 + g * 6) capZ)) := Lib.hid (((ob_set _ _ _ _).trans (ob_set _ _ _ _) (.inl rfl)).trans (ob_cells _ _ _ _).1 (.inl rfl))
          have HB2 : Hid (RAt (W.heap.size + 1) (((wr.setCell ⟨W.heap.size, 2056 + g, none⟩ (.int .i64 0)).setCell ⟨W.heap.size, 2184 + g, none⟩ (.bool false)).setCells W.heap.size (2312 + g * 6) capZ) zeroR) := Lib.hid (HB.out.keep HO.out.1 (HO.out.2.1 _ HB.out.1 (by omega)))
          have HBel2 : Hid (Below W.heap.size W (((wr.setCell ⟨W.heap.size, 2056 + g, none⟩ (.int .i64 0)).setCell ⟨W.heap.size, 2184 + g, none⟩ (.bool false)).setCells W.heap.size (2312 + g * 6) capZ)) := Lib.hid (HBel.out.trans (HO.out.2.2 _ (Nat.le_refl _) HBel.out.size))
          have HX := Lib.hid (And.intro x1 (And.intro x2 hlt))
          clear HA HB HBel hnew HO x1 x2 hlt
          generalize (freshN r p o 256 (g - 16 * p)).k g = kx at k3
          generalize (freshN r p o 256 (g - 16 * p)).t g = tx at k1
          go_wp2_with (refine wpList_store_mid rfl 31 (.tmp 43) (.tmp 37) rfl W.heap.size (2312 + g * 6) #[.int .i64 0, .int .i64 0, .int .i64 0, .int .i64 0, .int .i64 0, .bool false] rfl rfl ?ht capInfo capOne ?_; simpa using HTH.out)
          go_wp2_with fail
          go_roundw
          case rel => exact ⟨g + 1, by have := HX.out; omega, by have := HX.out; omega, by go_num, HA2, HB2, HBel2⟩
          case measure => (have := HX.out; simp [intOf]; omega)
        · have l1 : ¬ (g : Int) < 16 * (p : Int) + 16 := by omega
          have HA1 : Hid (RAt W.heap.size wr (freshN r p o 256 16)) := Lib.hid (by
            have := HA.out
            rwa [show g - 16 * p = 16 by omega] at this)
          have HRG := Lib.hid HA1.out.range
          have HTH : Hid (wr.there (W.heap.size + 1) 0 (freshN r p o 256 16).l.toArray.size) := Lib.hid (by rw [show (freshN r p o 256 16).l.toArray.size = 3080 by rw [List.size_toArray, RS.len]]; exact HB.out.there)
          have HFIN : Hid (RAt (W.heap.size + 1) (wr.setCells (W.heap.size + 1) 0 (freshN r p o 256 16).l) (freshN r p o 256 16)) := Lib.hid HB.out.cells
          have HBel2 : Hid (Below W.heap.size W (wr.setCells (W.heap.size + 1) 0 (freshN r p o 256 16).l)) := Lib.hid (HBel.out.trans ((ob_cells _ _ _ _).1.2.2 _ (by omega) HBel.out.size))
          have HI1 := Lib.hid (RS.info (freshN r p o 256 16))
          have HI2 := Lib.hid (RS.infoA (freshN r p o 256 16))
          have HON := Lib.hid (RS.one (freshN_one HN.out p o 256 16))
          clear HA HB HBel x1 x2 hlt HA1
          generalize hFL : (freshN r p o 256 16).l = FL at *
          have HFL := Lib.hid hFL
          clear hFL
          go_wp2_with (first | refine wpList_load_mid rfl 34 (.tmp 3) rfl W.heap.size 0 rfl FL _ HRG.out Tryd.underlying34 rfl HI1.out ?_ | refine wpList_store_mid rfl 34 (.tmp 6) (.tmp 44) rfl (W.heap.size + 1) 0 FL.toArray rfl rfl HTH.out HI2.out HON.out ?_)
          refine bodyPost_ret (results_cell_mid rfl _ _ (W.heap.size + 1) FL _ rfl (by have := HFIN.out.range; rw [HFL.out] at this; exact this) Tryd.underlying34 rfl HI1.out) rfl ⟨by rw [HFL.out], HBel2.out⟩
end Go.Proofs.YtgidnmjeifgciaaDoor
