/- Things that came in: a list of them, and one by value. -/
import Derived.Test.YtahggokeelgjdaaTrP
import Derived.Test.YtahggokeelgjdaaRecs
import Derived.SizedLaws
namespace Go.Proofs.Ytahggokeelgjdaa
open Go.RowKit Go.ChangeShapes Go.WideShapes Go.Deep
set_option linter.unusedVariables false

section
variable {H : Type} {enc : TypeId × Value → H} {w : World} {base : Nat} {spare : Nat → Bool} {held : Bool}

/-- Bytes that came in. -/
theorem data_of {fuel : Nat} {v : Value} {x : DataW H × List MemPlace} (h : DataW.trod enc Try.prog w base spare held fuel 23 [v] = some x) (hsz : ∀ n ∈ x.1.weights Try.prog 23, n ≤ reachBytes) :
    ∃ d, RD w v d ∧ ∀ y ∈ d, y < 256 := by
  rcases open_ints Try.underlying23 Try.underlying5 (by kernel_rfl) h with ⟨hcs, _⟩ | ⟨a, len, cap, zs, hcs, _, hl, hm, hz, hx, hcell, hwz⟩
  · injection hcs with hv _
    subst hv
    exact ⟨[], ⟨none, 0, rfl, by simp, .inl rfl⟩, by simp⟩
  · injection hcs with hv _
    subst hv
    have hzl : len ≤ zs.length := by rw [hz]; split <;> omega
    have hb : ∀ z ∈ zs, 0 ≤ z ∧ z < 256 := fun z hz' => by
      have := hwz z hz'
      simp [Lit.wf] at this
      have h1 : IntKind.u8.min = 0 := rfl
      have h2 : IntKind.u8.max = 255 := rfl
      omega
    have hlen : len ≤ 140737488351232 := by
      have h1 := hsz ((((zs.take len).map fun n => (DataW.lit (H := H) (.int .u8 n))).length + ((zs.drop len).map fun n => (DataW.lit (H := H) (.int .u8 n))).length) * Try.prog.bytesOf 5) (by
        rw [hx]
        simp [DataW.weights, Try.underlying23, lits])
      have h2 : Try.prog.bytesOf 5 = 1 := by kernel_rfl
      have h3 : reachBytes = 140737488351232 := by decide
      rw [h2, h3] at h1
      simp at h1
      omega
    refine ⟨(zs.take len).map Int.toNat, ⟨some a, cap, by simp [Nat.min_eq_left hzl], by simp; omega, ?_⟩, ?_⟩
    · by_cases h0 : len = 0
      · exact .inl (by subst h0; simp)
      · obtain ⟨b, off, rfl, hc⟩ := ints_at hcell (show 0 < zs.length by omega)
        refine .inr ⟨b, off, rfl, World.block_lt_of_cell? w _ (hc 0 (by omega)), fun j u hu => ?_⟩
        have hj : j < len := by
          have := (List.getElem?_eq_some_iff.1 hu).1
          simp [u8s] at this
          omega
        rw [hc j (by omega)]
        have hjz : j < zs.length := by omega
        have h3 := hb zs[j] (List.getElem_mem hjz)
        have e : u = .int .u8 (zs[j]) := by
          simp [u8s, hj, hjz] at hu
          rw [← hu]
          congr 1
          omega
        rw [e]
        simp [List.getD, hjz]
    · intro y hy
      obtain ⟨z, hz', rfl⟩ := List.mem_map.1 hy
      have := hb z (List.mem_of_mem_take hz')
      omega
theorem elem8 {P : Program} {t : TypeId} {f0 f1 f2 f3 f4 f5 f6 f7 : Field} {fuel : Nat} {cs : List Value} {x : DataW H × List MemPlace} (hs : P.underlying t = some (.struct #[f0, f1, f2, f3, f4, f5, f6, f7])) (hone : oneCellFields P #[f0, f1, f2, f3, f4, f5, f6, f7] = true) (hl : cs.length = 8)
    (h : DataW.trod enc P w base spare held fuel t cs = some x) :
    ∃ (c0 c1 c2 c3 c4 c5 c6 c7 : Value) (y0 y1 y2 y3 y4 y5 y6 y7 : DataW H × List MemPlace) (n : Nat), cs = [c0, c1, c2, c3, c4, c5, c6, c7] ∧ x.1 = .agg [y0.1, y1.1, y2.1, y3.1, y4.1, y5.1, y6.1, y7.1] ∧
      DataW.trod enc P w base spare held n f0.type [c0] = some y0 ∧ DataW.trod enc P w base spare held n f1.type [c1] = some y1 ∧ DataW.trod enc P w base spare held n f2.type [c2] = some y2 ∧ DataW.trod enc P w base spare held n f3.type [c3] = some y3 ∧ DataW.trod enc P w base spare held n f4.type [c4] = some y4 ∧ DataW.trod enc P w base spare held n f5.type [c5] = some y5 ∧ DataW.trod enc P w base spare held n f6.type [c6] = some y6 ∧ DataW.trod enc P w base spare held n f7.type [c7] = some y7 := by
  obtain ⟨ys, n, _, hx, _, hlen, hg⟩ := DataW.trod_struct hs h
  match cs, hl with
  | [c0, c1, c2, c3, c4, c5, c6, c7], _ =>
    match ys, hlen with
    | [y0, y1, y2, y3, y4, y5, y6, y7], _ =>
      obtain ⟨o0, k0⟩ := hone_of hone 0 f0 rfl
      obtain ⟨o1, k1⟩ := hone_of hone 1 f1 rfl
      obtain ⟨o2, k2⟩ := hone_of hone 2 f2 rfl
      obtain ⟨o3, k3⟩ := hone_of hone 3 f3 rfl
      obtain ⟨o4, k4⟩ := hone_of hone 4 f4 rfl
      obtain ⟨o5, k5⟩ := hone_of hone 5 f5 rfl
      obtain ⟨o6, k6⟩ := hone_of hone 6 f6 rfl
      obtain ⟨o7, k7⟩ := hone_of hone 7 f7 rfl
      exact ⟨c0, c1, c2, c3, c4, c5, c6, c7, y0, y1, y2, y3, y4, y5, y6, y7, n, rfl, by rw [hx]; rfl, by simpa [o0, k0] using hg 0 f0 rfl, by simpa [o1, k1] using hg 1 f1 rfl, by simpa [o2, k2] using hg 2 f2 rfl, by simpa [o3, k3] using hg 3 f3 rfl, by simpa [o4, k4] using hg 4 f4 rfl, by simpa [o5, k5] using hg 5 f5 rfl, by simpa [o6, k6] using hg 6 f6 rfl, by simpa [o7, k7] using hg 7 f7 rfl⟩
/-- A thing's eight cells. -/
theorem op_of {fuel : Nat} {cs : List Value} {x : DataW H × List MemPlace} (h : DataW.trod enc Try.prog w base spare held fuel 25 cs = some x) (hl : cs.length = 8) (hsz : ∀ n ∈ x.1.weights Try.prog 25, n ≤ reachBytes) :
    ∃ p : OV, cs = enc8 p ∧ p.o.ok ∧ RD w p.dv p.d ∧ ∀ y ∈ p.d, y < 256 := by
  obtain ⟨c0, c1, c2, c3, c4, c5, c6, c7, y0, y1, y2, y3, y4, y5, y6, y7, n, rfl, hx, h0, h1, h2, h3, h4, h5, h6, h7⟩ := elem8 Try.underlying25 (by kernel_rfl) hl h
  obtain ⟨z0, e0, -, b0⟩ := DataW.trod_int Try.underlying3 h0
  obtain ⟨z1, e1, -, b1⟩ := DataW.trod_int Try.underlying3 h1
  obtain ⟨z2, e2, -, b2⟩ := DataW.trod_int Try.underlying3 h2
  obtain ⟨z3, e3, -, b3⟩ := DataW.trod_int Try.underlying3 h3
  obtain ⟨z4, e4, -, b4⟩ := DataW.trod_int Try.underlying3 h4
  obtain ⟨z5, e5, -, b5⟩ := DataW.trod_int Try.underlying3 h5
  obtain ⟨z6, e6, -, b6⟩ := DataW.trod_int Try.underlying3 h6
  obtain ⟨d, hd, hdb⟩ := data_of h7 (fun m hm => hsz m (by
    rw [hx]
    simp only [DataW.weights, Try.underlying25, DataW.weightsEach, List.map_cons, List.map_nil, List.mem_append]
    exact .inr (.inr (.inr (.inr (.inr (.inr (.inr (.inl hm)))))))))
  injection e0 with e0 _
  injection e1 with e1 _
  injection e2 with e2 _
  injection e3 with e3 _
  injection e4 with e4 _
  injection e5 with e5 _
  injection e6 with e6 _
  subst e0 e1 e2 e3 e4 e5 e6
  refine ⟨⟨⟨z0, z1, z2, z3, z4, z5, z6⟩, d, c7⟩, rfl, ?_, hd, hdb⟩
  intro z hz
  simp only [Op7.l, List.mem_cons, List.not_mem_nil, or_false] at hz
  rcases hz with rfl | rfl | rfl | rfl | rfl | rfl | rfl
  · exact bounds_i64 b0
  · exact bounds_i64 b1
  · exact bounds_i64 b2
  · exact bounds_i64 b3
  · exact bounds_i64 b4
  · exact bounds_i64 b5
  · exact bounds_i64 b6
theorem weightsAll_mem {P : Program} {e : TypeId} {ds : List (DataW H)} {d : DataW H} {n : Nat} (hd : d ∈ ds) (hn : n ∈ d.weights P e) : n ∈ DataW.weightsAll P e ds := by
  induction ds with
  | nil => simp at hd
  | cons a r ih =>
    rw [DataW.weightsAll, List.mem_append]
    rcases List.mem_cons.1 hd with rfl | h
    · exact .inl hn
    · exact .inr (ih h)
/-- A list of things. -/
theorem ops_of {fuel : Nat} {v : Value} {x : DataW H × List MemPlace} (h : DataW.trod enc Try.prog w base spare held fuel 22 [v] = some x) (hsz : ∀ n ∈ x.1.weights Try.prog 22, n ≤ reachBytes) :
    ∃ (A : Option Addr) (l : List OV) (c : Nat), v = .slice A l.length c ∧ OPS w (.slice A l.length c) l ∧ ∀ p ∈ l, ∀ y ∈ p.d, y < 256 := by
  rcases open_slice Try.underlying22 h with ⟨hcs, _⟩ | ⟨a, len, cap, m, k, D, Pl, hcs, hb, hl, hm, hmm, hx, hi⟩
  · injection hcs with hv _
    subst hv
    exact ⟨none, [], 0, rfl, ops_nil _, by simp⟩
  · injection hcs with hv _
    subst hv
    have hlm : len ≤ m := by rw [hmm]; split <;> omega
    have hC : Try.prog.cellsOf 25 = 8 := by kernel_rfl
    have key : ∀ i, i < len → ∃ p : OV, (∀ j, j < 8 → w.cell? (a.add (i * 8 + j)) = (enc8 p)[j]?) ∧ p.o.ok ∧ RD w p.dv p.d ∧ ∀ y ∈ p.d, y < 256 := by
      intro i hin
      obtain ⟨cs', hc, ht'⟩ := hi i (by omega)
      rw [hC] at hc
      obtain ⟨_, hcl, hat⟩ := World.cells?_some hc
      obtain ⟨p, e, h1, h2, h3⟩ := op_of ht' hcl (fun n hn => hsz n (by
        rw [hx]
        simp only [DataW.weights, Try.underlying22]
        refine List.mem_cons_of_mem _ (List.mem_append_left _ (weightsAll_mem (d := D i) ?_ hn))
        exact List.mem_map.2 ⟨i, List.mem_range.2 hin, rfl⟩))
      subst e
      refine ⟨p, fun j hj => ?_, h1, h2, h3⟩
      rw [← hat j hj, add_add]
    haveI : Inhabited OV := ⟨⟨⟨0, 0, 0, 0, 0, 0, 0⟩, [], .bool false⟩⟩
    obtain ⟨f, hf⟩ := choose_lt key
    have hll : ((List.range len).map f).length = len := by simp
    refine ⟨some a, (List.range len).map f, cap, by rw [hll], ?_, ?_⟩
    · refine ⟨some a, cap, rfl, by rw [hll]; unfold maxLen at hm; omega, ?_⟩
      by_cases h0 : len = 0
      · exact .inl (by subst h0; rfl)
      · have g0 := (hf 0 (by omega)).1 0 (by decide)
        obtain ⟨b, off, spot⟩ := a
        have hspot : spot = none := by simpa [Addr.add] using World.cell?_spot (g0.trans (show (enc8 (f 0))[0]? = some _ from rfl))
        subst hspot
        refine .inr ⟨b, off, rfl, World.block_lt_of_cell? w _ (g0.trans (show (enc8 (f 0))[0]? = some _ from rfl)), fun i p hp => ?_⟩
        have hin : i < len := by have := (List.getElem?_eq_some_iff.1 hp).1; simpa using this
        have e : f i = p := by simpa [hin] using hp
        obtain ⟨k1, k2, k3, k4⟩ := hf i hin
        rw [e] at k1 k2 k3 k4
        have kk : ∀ j, j < 8 → w.cell? ⟨b, off + i * 8 + j, none⟩ = (enc8 p)[j]? := fun j hj => by
          have := k1 j hj
          rw [addp] at this
          rw [← this, Nat.add_assoc]
        exact ⟨⟨kk 0 (by decide), kk 1 (by decide), kk 2 (by decide), kk 3 (by decide), kk 4 (by decide), kk 5 (by decide), kk 6 (by decide), kk 7 (by decide)⟩, k3, k2⟩
    · intro p hp
      obtain ⟨i, hi', rfl⟩ := List.mem_map.1 hp
      exact (hf i (List.mem_range.1 hi')).2.2.2
/-- A thing by value. -/
theorem opv_of {r : Reach} {b0 : Nat} {v : Value} {d : DataW H} {pl : List MemPlace} (hv : Value.okWide Try.prog w r b0 25 v) (h : DataW.Trod enc Try.prog w base spare held 25 v d pl) (hsz : ∀ n ∈ d.weights Try.prog 25, n ≤ reachBytes) :
    ∃ (o : Op7) (dv : Value) (ds : List Nat), v = .agg #[.int .i64 o.k, .int .i64 o.t, .int .i64 o.a, .int .i64 o.b, .int .i64 o.v, .int .i64 o.n, .int .i64 o.m, dv] ∧ o.ok ∧ RD w dv ds ∧ ∀ y ∈ ds, y < 256 := by
  obtain ⟨cs, rfl, hcz⟩ := okWide_struct Try.underlying25 hv
  have hC : Try.prog.cellsOf 25 = 8 := by kernel_rfl
  obtain ⟨l⟩ := cs
  match l, hcz.trans hC with
  | [c0, c1, c2, c3, c4, c5, c6, c7], _ =>
    obtain ⟨fuel, hf⟩ := h
    have hf2 : DataW.trod enc Try.prog w base spare held fuel 25 [c0, c1, c2, c3, c4, c5, c6, c7] = some (d, pl) := by simpa [Value.cells] using hf
    obtain ⟨p, e, h1, h2, h3⟩ := op_of hf2 rfl hsz
    refine ⟨p.o, p.dv, p.d, ?_, h1, h2, h3⟩
    rw [e]
    rfl
end
end Go.Proofs.Ytahggokeelgjdaa
