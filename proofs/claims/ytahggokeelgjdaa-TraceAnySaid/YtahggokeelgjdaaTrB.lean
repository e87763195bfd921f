/- A thing's bytes: what trace.One and the statement's own One write. -/
import Derived.Test.YtahggokeelgjdaaTrA
import Derived.Deep.RegionHeld3
namespace Go.Proofs.Ytahggokeelgjdaa
open Go.RowKit
set_option linter.unusedVariables false
set_option linter.unusedSimpArgs false

/-- An element of an array by value. -/
theorem run_index_agg {P : Program} (w : World) (t e : TypeId) (n : Nat) (cs : Array Value) (k : IntKind) (i : Int) (v : Value) (h : P.underlying t = some (.array n e)) (ha : ∀ w, (isAgg e).run P w = .ok false w) (hs : ∀ w, (sizeOf e).run P w = .ok 1 w)
    (h0 : 0 ≤ i) (h1 : i < (n : Int)) (hv : cs[i.toNat]? = some v) : (Instr.index t (.agg cs) (.int k i)).run P w = .ok v w := by
  have hn : 0 ≤ i ∧ i < (n : Int) := ⟨h0, h1⟩
  simp [Instr.index, run_underlying h, asIntOf, hn, go_sem, part, ha, hs, hv]
theorem wpList_index_agg {P : Program} {ops : Array Oper} {rest : List Oper} {op : Oper} {a : Act} {w : World} {Q : Exit → Act → World → Prop} (hgd : op.guard = none) (t : TypeId) (x y : Operand) (ho : op.op = .index t x y)
    (cs : Array Value) (k : IntKind) (i : Int) (v : Value) (hx : a.eval x = .agg cs) (hy : a.eval y = .int k i) (hr : (Instr.index t (.agg cs) (.int k i)).run P w = .ok v w)
    (h : wpList P ops Q rest (a.put op.dst v) w) : wpList P ops Q (op :: rest) a w :=
  wpList_plain hgd fun _ hK => by
    unfold Oper.wp execOp
    simp only [ho, hx, hy, Sem.run_bind, Sem.run_pure, Result.andThen_ok, hr]
    exact hK _ _ h
/-- Bytes that are read: nobody says that they may be written. -/
def RD (W : World) (v : Value) (xs : List Nat) : Prop :=
  ∃ A c, v = .slice A xs.length c ∧ xs.length ≤ 140737488351232 ∧ (xs = [] ∨ ∃ bd off, A = some ⟨bd, off, none⟩ ∧ bd < W.heap.size ∧ At W bd off (u8s xs))
theorem RD.keep {W W' : World} {v : Value} {xs : List Nat} (h : RD W v xs) (hb : Below W.heap.size W W') : RD W' v xs := by
  obtain ⟨A, c, e, h1, h2⟩ := h
  refine ⟨A, c, e, h1, ?_⟩
  rcases h2 with h2 | ⟨bd, off, e2, h3, h4⟩
  · exact .inl h2
  · exact .inr ⟨bd, off, e2, Nat.lt_of_lt_of_le h3 hb.size, h4.keep (hb.block bd h3)⟩
theorem RD.drw {W : World} {v : Value} {xs : List Nat} (h : RD W v xs) (n : Nat) : RD (W.drewN n) v xs := h.keep (below_drewN (Below.refl _ _) n)
theorem BY.rd {b : Nat} {W : World} {v : Value} {xs : List Nat} (h : BY b W v xs) (hl : xs.length ≤ 140737488351232) : RD W v xs := by
  obtain ⟨A, c, e, h1, h2, h3, h4, ⟨h5, h6, h7⟩ | ⟨off, h5, h6, h7, _⟩⟩ := h
  · exact ⟨A, c, e, hl, .inl (List.length_eq_zero_iff.1 h6)⟩
  · exact ⟨A, c, e, hl, .inr ⟨b, off, h5, h6, h7⟩⟩
theorem run_app0b (W : World) (ty : TypeId) (A : Option Addr) (n c : Nat) (a2 : Option Addr) (c2 : Nat) (hnc : n ≤ c) (hA : A = none → n = 0 ∧ c = 0) :
    (Builtin.append_ #[23, 23] ty #[.slice A n c, .slice a2 0 c2]).run Try.prog W = .ok (.slice A n c) W := by
  obtain ⟨i0, hi, hz0, hz1, hz2⟩ := info_parts tyByte.inf
  cases A with
  | none =>
    obtain ⟨rfl, rfl⟩ := hA rfl
    cases a2 <;> simp [Builtin.append_, run_underlying Try.underlying23, sizeOf, typeInfo, hi, Builtin.lenOf, Builtin.firstCells, storeCells, loadCells, loadCellsFrom]
  | some ad => cases a2 <;> simp [Builtin.append_, run_underlying Try.underlying23, sizeOf, typeInfo, hi, Builtin.lenOf, Builtin.firstCells, hnc, storeCells, loadCells, loadCellsFrom]
/-- What comes of an append of bytes. -/
def BPost (b : Nat) (W : World) (v : Value) (xs : List Nat) (v' : Value) (w' : World) : Prop :=
  ∃ b', (b' = b ∨ W.heap.size ≤ b') ∧ BY b' w' v' xs ∧ OB b W w' ∧ (v' = .slice none 0 0 → v = .slice none 0 0)
theorem run_app_by (b : Nat) (v : Value) (xs : List Nat) (W : World) (h : BY b W v xs) (y : Value) (ys : List Nat) (hy : RD W y ys) (hbig : xs.length + ys.length ≤ 140737488355328) (ty : TypeId) :
    ∃ v' w', (Builtin.append_ #[23, 23] ty #[v, y]).run Try.prog W = .ok v' w' ∧ BPost b W v (xs ++ ys) v' w' := by
  obtain ⟨A2, c2, rfl, _, h2⟩ := hy
  rcases h2 with rfl | ⟨bd, off, rfl, hbd, hat⟩
  · have h0 := h
    obtain ⟨A, c, rfl, h1, h2, h3, h4, h5⟩ := h
    refine ⟨_, _, run_app0b W ty A xs.length c A2 c2 h2 (fun e => ?_), b, .inl rfl, by rw [List.append_nil]; exact h0, OB.of_below (Below.refl _ _), fun e => e⟩
    rcases h5 with ⟨_, h6, h7⟩ | ⟨off, h6, _⟩
    · exact ⟨h6, h7⟩
    · rw [e] at h6; cases h6
  · obtain ⟨v', w', hr, ⟨b', hb', hv, hs, ho, hl⟩, hnn⟩ := run_app_vz tyByte ty b v xs.length (u8s xs) h ⟨bd, off, none⟩ ys.length c2 (u8s ys) (by rw [u8s_len, Nat.mul_one]) (fun j u hu => by rw [addp]; exact hat j u hu) (u8s_one ys) (by omega)
    refine ⟨v', w', hr, b', hb', ?_, ⟨hs, ho, hl⟩, hnn⟩
    show VZ 1 b' w' v' (xs ++ ys).length _
    rw [u8s_app, List.length_append]
    exact hv
theorem app_by {ops : Array Oper} {rest : List Oper} {o : Oper} {a : Act} {Q : Exit → Act → World → Prop} {W : World} (hgd : o.guard = none) (s x : Operand)
    (ho : o.op = .call { callee := .builtin .append, args := #[s, x], argTypes := #[23, 23] })
    (b : Nat) (v : Value) (xs : List Nat) (hs : a.eval s = v) (h : BY b W v xs) (y : Value) (ys : List Nat) (hx : a.eval x = y) (hy : RD W y ys) (hbig : xs.length + ys.length ≤ 140737488355328)
    (hK : ∀ v' w', BPost b W v (xs ++ ys) v' w' → wpList Try.prog ops Q rest (a.put o.dst v') w') : wpList Try.prog ops Q (o :: rest) a W := by
  refine wpList_plain hgd fun K hK2 => ?_
  obtain ⟨v', w', hrun, hp⟩ := run_app_by b v xs W h y ys hy hbig o.type
  unfold Oper.wp
  simp [execOp, ho, resolve, invoke, builtin, hs, hx, hrun, Result.andThen]
  exact hK2 _ _ (hK v' w' hp)
theorem step_app_by {ops : Array Oper} {o : Oper} {a : Act} {W : World} {K : Act → World → Prop} {Q : Exit → Act → World → Prop} {X : Prop}
    (hg : o.guard = none) (s x : Operand) (hop : o.op = Op.call { callee := Callee.builtin Builtin.append, args := #[s, x], argTypes := #[23, 23] })
    (b : Nat) (v : Value) (xs : List Nat) (hs : a.eval s = v) (h : BY b W v xs) (y : Value) (ys : List Nat) (hx : a.eval x = y) (hy : RD W y ys) (hbig : xs.length + ys.length ≤ 140737488355328)
    (hK : ∀ v' w', BPost b W v (xs ++ ys) v' w' → K (a.put o.dst v') w') :
    if Region.wanted o (yielded ops a.tmps) = true then Oper.wp Try.prog o a W K Q else X := by
  have hw : Region.wanted o (yielded ops a.tmps) = true := by simp [Region.wanted, hg]
  rw [if_pos hw]
  obtain ⟨v', w', hrun, hp⟩ := run_app_by b v xs W h y ys hy hbig o.type
  unfold Oper.wp
  simp [execOp, hop, resolve, invoke, builtin, hs, hx, hrun, Result.andThen]
  exact hK v' w' hp
/-- A thing's numbers. -/
structure Op7 where
  k : Int
  t : Int
  a : Int
  b : Int
  v : Int
  n : Int
  m : Int
def Op7.l (o : Op7) : List Int := [o.k, o.t, o.a, o.b, o.v, o.n, o.m]
def Op7.ok (o : Op7) : Prop := ∀ x ∈ o.l, -9223372036854775808 ≤ x ∧ x ≤ 9223372036854775807
/-- The bytes of numbers. -/
def vbs (l : List Int) : List Nat := l.flatMap fun n => vb (zig n)
def oneB (o : Op7) (d : List Nat) : List Nat := vbs o.l ++ vb (zig d.length) ++ d
theorem vb_len (x : Nat) (h : x < 18446744073709551616) : (vb x).length ≤ 10 := by
  have key : ∀ k x, x < 128 ^ (k + 1) → (vb x).length ≤ k + 1 := by
    intro k
    induction k with
    | zero => intro x hx; rw [vb, if_pos (by simpa using hx)]; simp
    | succ k ih =>
      intro x hx
      rw [vb]
      split
      · simp
      · have : x / 128 < 128 ^ (k + 1) := by rw [Nat.div_lt_iff_lt_mul (by decide), ← Nat.pow_succ]; exact hx
        have := ih _ this
        simp
        omega
  exact key 9 x (Nat.lt_of_lt_of_le h (by decide))
theorem vbs_len (l : List Int) (h : ∀ x ∈ l, -9223372036854775808 ≤ x ∧ x ≤ 9223372036854775807) : (vbs l).length ≤ 10 * l.length := by
  induction l with
  | nil => simp [vbs]
  | cons x r ih =>
    have h1 := ih (fun y hy => h y (by simp [hy]))
    have h2 := vb_len (zig x) (zig_lt x (h x (by simp)))
    simp only [vbs, List.flatMap_cons, List.length_append, List.length_cons] at h1 ⊢
    omega
set_option maxHeartbeats 3200000 in
theorem trOne (o : Op7) (dv : Value) (d : List Nat) (W : World) (hd : RD W dv d) (ho : o.ok) :
    Calls Try.prog 12 #[.agg #[.int .i64 o.k, .int .i64 o.t, .int .i64 o.a, .int .i64 o.b, .int .i64 o.v, .int .i64 o.n, .int .i64 o.m, dv]] W (NPost W (oneB o d)) := by
  have hsh := hd
  obtain ⟨A, c, rfl, hl9, _⟩ := hsh
  have HD := Lib.hid hd
  have HO := Lib.hid ho
  clear hd ho
  go_enter Try.func12, Try.ntmps12
  go_wp2_with fail
  obtain ⟨W1, hW1⟩ : ∃ W1, W.alloc (.cells #[.int .i64 o.k, .int .i64 o.t, .int .i64 o.a, .int .i64 o.b, .int .i64 o.v, .int .i64 o.n, .int .i64 o.m, .slice A d.length c] 25) = W1 := ⟨_, rfl⟩
  obtain ⟨X, hX⟩ : ∃ X, W.heap.size = X := ⟨_, rfl⟩
  have c7 : W1.cell? ⟨X, 7, none⟩ = some (.slice A d.length c) := by rw [← hW1, ← hX]; simp
  have HB1 : Hid (Below W.heap.size W W1) := Lib.hid (by rw [← hW1]; exact alc0 _ _)
  have HX1 : Hid (W1.heap.size = X + 1) := Lib.hid (by rw [← hW1, ← hX]; simp)
  rw [hW1]
  clear hW1
  have HC7 := Lib.hid c7
  have HXX := Lib.hid hX
  try rw [hX]
  clear c7 hX
  go_loopw [3, 21] (fun v3 v21 wr => ∃ (i b' : Nat), i ≤ 7 ∧ v21 = .int .i64 i ∧ Hid (BY b' wr v3 (vbs (o.l.take i))) ∧ Hid (W1.heap.size ≤ b') ∧ Hid (Below W1.heap.size W1 wr)) (fun _ v21 _ => 7 - (intOf v21).toNat)
  case atStart => exact ⟨0, W1.heap.size, by omega, rfl, Lib.hid (vz_nil _ _ _), Lib.hid (Nat.le_refl _), Lib.hid (Below.refl _ _)⟩
  case round =>
    obtain ⟨i, b', hi, rfl, HV, Hb, HW⟩ := hrel
    have hl7 : o.l.length = 7 := rfl
    have hlen : (vbs (o.l.take i)).length ≤ 70 := by
      have := vbs_len (o.l.take i) (fun y hy => HO.out y (List.mem_of_mem_take hy))
      rw [List.length_take, hl7] at this
      omega
    have hi7 : i = 7 ∨ i = 0 ∨ i = 1 ∨ i = 2 ∨ i = 3 ∨ i = 4 ∨ i = 5 ∨ i = 6 := by omega
    have HLN := Lib.hid hlen
    clear hlen hl7 hi
    rcases hi7 with rfl | rfl | rfl | rfl | rfl | rfl | rfl | rfl
    · have HDr : Hid (RD wr (.slice A d.length c) d) := Lib.hid ((HD.out.keep HB1.out).keep HW.out)
      have hzX : X < W1.heap.size := by have := HX1.out; omega
      have hzr : X < wr.heap.size := Nat.lt_of_lt_of_le hzX HW.out.size
      have c7 : wr.cell? ⟨X, 7, none⟩ = some (.slice A d.length c) := (HW.out.cell (p := ⟨X, 7, none⟩) hzX).trans HC7.out
      have hd9 : (-9223372036854775808 : Int) ≤ (d.length : Int) ∧ (d.length : Int) ≤ 9223372036854775807 := by omega
      have HD9 := Lib.hid hd9
      have hvl : (vb (zig (d.length : Int))).length ≤ 10 := vb_len _ (zig_lt _ hd9)
      have HVL := Lib.hid hvl
      have HTK : Hid (o.l.take 7 = o.l) := Lib.hid rfl
      clear hd9 hvl
      go_upto_region 7 with (fail)
      refine wp_region_held_drew (S := fun w' => w'.cell? ⟨X, 7, none⟩ = some (.slice A d.length c)) (by kernel_rfl) ?_ (fun hHeld => ?_)
      · exact c7
      refine wpAnyH_take (i := 0) (v := ?_) rfl (by kernel_rfl) (by kernel_rfl) (by kernel_rfl) (fun _ _ _ h => h) (Or.inl ⟨by kernel_rfl, ?_⟩) (by assumption) ?_
      rotate_left
      · (intro w hSw; (try dsimp only at hSw); go_simp)
        try (with_reducible rfl)
      rotate_left
      try simp (maxSteps := 4000000) only [Act.put, List.setIfInBounds_toArray, List.set_cons_zero, List.set_cons_succ, List.getElem_toArray, List.getElem_cons_zero, List.getElem_cons_succ]
      refine wpAnyH_take (i := 1) (v := ?_) rfl (by kernel_rfl) (by kernel_rfl) (by kernel_rfl) (fun _ _ _ h => h) (Or.inl ⟨by kernel_rfl, ?_⟩) (by assumption) ?_
      rotate_left
      · (intro w hSw; (try dsimp only at hSw); go_simp)
        try (with_reducible rfl)
      rotate_left
      try simp (maxSteps := 4000000) only [Act.put, List.setIfInBounds_toArray, List.set_cons_zero, List.set_cons_succ, List.getElem_toArray, List.getElem_cons_zero, List.getElem_cons_succ]
      refine wpAnyH_take (i := 2) (v := ?_) rfl (by kernel_rfl) (by kernel_rfl) (by kernel_rfl) (fun _ _ _ h => h) (Or.inl ⟨by kernel_rfl, ?_⟩) (by assumption) ?_
      rotate_left
      · (intro w hSw; (try dsimp only at hSw); go_simp)
        try (with_reducible rfl)
      rotate_left
      try simp (maxSteps := 4000000) only [Act.put, List.setIfInBounds_toArray, List.set_cons_zero, List.set_cons_succ, List.getElem_toArray, List.getElem_cons_zero, List.getElem_cons_succ]
      refine wpAnyH_take (i := 3) (v := ?_) rfl (by kernel_rfl) (by kernel_rfl) (by kernel_rfl) (fun _ _ _ h => h) (Or.inl ⟨by kernel_rfl, ?_⟩) (by assumption) ?_
      rotate_left
      · (intro w hSw; (try dsimp only at hSw); go_simp)
        try (with_reducible rfl)
      rotate_left
      try simp (maxSteps := 4000000) only [Act.put, List.setIfInBounds_toArray, List.set_cons_zero, List.set_cons_succ, List.getElem_toArray, List.getElem_cons_zero, List.getElem_cons_succ]
      refine wpAnyH_take (i := 5) (v := ?_) rfl (by kernel_rfl) (by kernel_rfl) (by kernel_rfl) (fun _ _ _ h => h) (Or.inl ⟨by kernel_rfl, ?_⟩) (by assumption) ?_
      rotate_left
      · (intro w hSw; (try dsimp only at hSw); go_simp)
        try (with_reducible rfl)
      rotate_left
      try simp (maxSteps := 4000000) only [Act.put, List.setIfInBounds_toArray, List.set_cons_zero, List.set_cons_succ, List.getElem_toArray, List.getElem_cons_zero, List.getElem_cons_succ]
      refine wpAnyH_take (i := 6) (v := ?_) rfl (by kernel_rfl) (by kernel_rfl) (by kernel_rfl) (fun _ _ _ h => h) (Or.inl ⟨by kernel_rfl, ?_⟩) (by assumption) ?_
      rotate_left
      · (intro w hSw; (try dsimp only at hSw); go_simp)
        try (with_reducible rfl)
      rotate_left
      try simp (maxSteps := 4000000) only [Act.put, List.setIfInBounds_toArray, List.set_cons_zero, List.set_cons_succ, List.getElem_toArray, List.getElem_cons_zero, List.getElem_cons_succ]
      refine wpAnyH_ready (rs := [4]) (by kernel_rfl) (by simp) ?_
      refine AllReadyH.cons rfl (fun K2 hK2 => ?_) AllReadyH.nil
      go_simp
      refine Calls.mono (appNum b' _ (vbs (o.l.take 7)) d.length _ (VZ.below HV.out (below_drewN (Below.refl _ _) _)) HD9.out (by have := HLN.out; omega)) ?_
      rintro e w2 ⟨b2, v2, rfl, hb2, hv2, ho2, hn2⟩
      have HV2 := Lib.hid hv2
      have HB2 : Hid (Below W1.heap.size W1 w2) := Lib.hid ((below_drewN HW.out _).trans (ho2.2.2 W1.heap.size Hb.out (by exact HW.out.size)))
      have Hb2 : Hid (W1.heap.size ≤ b2) := Lib.hid (by have := HW.out.size; have := Hb.out; rcases hb2 with rfl | h; omega; (have h : wr.heap.size ≤ b2 := h); omega)
      have HN2 := Lib.hid hn2
      have hs2 : w2.cell? ⟨X, 7, none⟩ = some (.slice A d.length c) := (HB2.out.cell (p := ⟨X, 7, none⟩) hzX).trans HC7.out
      clear hb2 hv2 ho2 hn2
      refine hK2.out _ _ hs2 (fun hHeld2 => ?_)
      clear hK2 K2 hHeld
      have hHeld := hHeld2
      clear hHeld2
      try simp (maxSteps := 4000000) only [Act.put, List.setIfInBounds_toArray, List.set_cons_zero, List.set_cons_succ]
      refine wpAnyH_ready (rs := [7]) (by kernel_rfl) (by simp) ?_
      refine AllReadyH.cons rfl (fun K2 hK2 => ?_) AllReadyH.nil
      have hlb : (vbs (List.take 7 o.l) ++ vb (zig (d.length : Int))).length + d.length ≤ 140737488355328 := by have := HLN.out; have := HVL.out; rw [List.length_append]; omega
      refine step_app_by rfl _ _ rfl b2 v2 _ rfl (by first | exact HV2.out | exact VZ.below HV2.out (below_drewN (Below.refl _ _) _)) (.slice A d.length c) d rfl (by first | exact (HD.out.keep HB1.out).keep HB2.out | exact ((HD.out.keep HB1.out).keep HB2.out).drw _) hlb ?_
      rintro v3 w3 ⟨b3, hb3, hv3, ho3, hn3⟩
      change K2 (Act.put _ (some 35) v3) w3
      have HV3 := Lib.hid hv3
      have HB3 : Hid (Below W1.heap.size W1 w3) := Lib.hid (by first | exact HB2.out.trans (ho3.2.2 W1.heap.size Hb2.out HB2.out.size) | exact (below_drewN HB2.out _).trans (ho3.2.2 W1.heap.size Hb2.out (by exact HB2.out.size)))
      have Hb3 : Hid (W1.heap.size ≤ b3) := Lib.hid (by have := HB2.out.size; have := Hb2.out; rcases hb3 with rfl | h; omega; (have h : w2.heap.size ≤ b3 := h); omega)
      have HN3 : Hid (v3 ≠ .slice none 0 0) := Lib.hid (fun h => HN2.out (hn3 h))
      have hs3 : w3.cell? ⟨X, 7, none⟩ = some (.slice A d.length c) := (HB3.out.cell (p := ⟨X, 7, none⟩) hzX).trans HC7.out
      clear hb3 hv3 ho3 hn3 hlb
      refine hK2.out _ _ hs3 (fun hHeld2 => ?_)
      clear hK2 K2 hHeld
      have hHeld := hHeld2
      clear hHeld2
      try simp (maxSteps := 4000000) only [Act.put, List.setIfInBounds_toArray, List.set_cons_zero, List.set_cons_succ]
      refine wpAnyH_take (i := 8) (v := ?_) rfl (by kernel_rfl) (by kernel_rfl) (by kernel_rfl) (fun _ _ _ h => h) (Or.inl ⟨by kernel_rfl, ?_⟩) (by assumption) ?_
      rotate_left
      · (intro w hSw; (try dsimp only at hSw); go_simp)
        try (with_reducible rfl)
      rotate_left
      try simp (maxSteps := 4000000) only [Act.put, List.setIfInBounds_toArray, List.set_cons_zero, List.set_cons_succ, List.getElem_toArray, List.getElem_cons_zero, List.getElem_cons_succ]
      refine wpAnyH_done (by kernel_rfl) ?_ _
      go_wp2
      go_ret
      exact ⟨b3, v3, rfl, by have := HB1.out.size; have := Hb3.out; omega, by first | exact HV3.out | exact VZ.below HV3.out (below_drewN (Below.refl _ _) _), by first | exact HB1.out.trans (HB3.out.mono HB1.out.size) | exact below_drewN (HB1.out.trans (HB3.out.mono HB1.out.size)) _, HN3.out⟩
    all_goals
      have HIX : Hid (∀ (j : Int) (v : Value), 0 ≤ j → j < 7 → (#[Value.int .i64 o.k, .int .i64 o.t, .int .i64 o.a, .int .i64 o.b, .int .i64 o.v, .int .i64 o.n, .int .i64 o.m] : Array Value)[j.toNat]? = some v → (Instr.index 45 (.agg #[.int .i64 o.k, .int .i64 o.t, .int .i64 o.a, .int .i64 o.b, .int .i64 o.v, .int .i64 o.n, .int .i64 o.m]) (.int .i64 j)).run Try.prog wr = .ok v wr) := Lib.hid (fun j v h0 h1 hv => run_index_agg wr _ 3 7 _ _ _ _ Try.underlying45 Try.isAgg3 Try.sizeOf3 h0 h1 hv)
      go_upto_region 5 with (refine wpList_index_agg rfl 45 (.tmp 20) (.tmp 21) rfl _ _ _ _ rfl rfl (HIX.out _ _ (by decide) (by decide) rfl) ?_)
      clear HIX
      go_wp2_with fail
      refine Calls.mono (appNum b' _ (vbs (o.l.take _)) _ wr HV.out ?hx ?hl) ?_
      case hx => exact HO.out _ (by simp [Op7.l])
      case hl => have := HLN.out; omega
      rintro e w2 ⟨b2, v2, rfl, hb2, hv2, ho2, hn2⟩
      have HV2 := Lib.hid hv2
      have HW2 : Hid (Below W1.heap.size W1 w2) := Lib.hid (HW.out.trans (ho2.2.2 W1.heap.size Hb.out HW.out.size))
      have Hb2 : Hid (W1.heap.size ≤ b2) := Lib.hid (by have := HW.out.size; have := Hb.out; rcases hb2 with rfl | h <;> omega)
      clear hv2 ho2 hb2 hn2 HV HLN
      go_wp2_with fail
      go_roundw
      case rel => first | exact ⟨1, b2, by decide, by go_num, Lib.hid (by have := HV2.out; simpa [vbs, Op7.l] using this), Hb2, HW2⟩ | exact ⟨2, b2, by decide, by go_num, Lib.hid (by have := HV2.out; simpa [vbs, Op7.l] using this), Hb2, HW2⟩ | exact ⟨3, b2, by decide, by go_num, Lib.hid (by have := HV2.out; simpa [vbs, Op7.l] using this), Hb2, HW2⟩ | exact ⟨4, b2, by decide, by go_num, Lib.hid (by have := HV2.out; simpa [vbs, Op7.l] using this), Hb2, HW2⟩ | exact ⟨5, b2, by decide, by go_num, Lib.hid (by have := HV2.out; simpa [vbs, Op7.l] using this), Hb2, HW2⟩ | exact ⟨6, b2, by decide, by go_num, Lib.hid (by have := HV2.out; simpa [vbs, Op7.l] using this), Hb2, HW2⟩ | exact ⟨7, b2, by decide, by go_num, Lib.hid (by have := HV2.out; simpa [vbs, Op7.l] using this), Hb2, HW2⟩
      case measure => simp [intOf] <;> omega
end Go.Proofs.Ytahggokeelgjdaa
