/- Two new memories of the document's are equal. -/
import Derived.Test.YtgidnmjeifgciaaDoorMrA
import Derived.DeepKeys
namespace Go.Proofs.YtgidnmjeifgciaaDoor
set_option maxRecDepth 100000
open Go.RowKit Go.ChangeMaps Go.MapKept

theorem mapM_some {α β : Type} {f : α → Option β} : ∀ {l : List α}, (∀ i ∈ l, ∃ a, f i = some a) → ∃ zs, l.mapM f = some zs
  | [], _ => ⟨[], rfl⟩
  | x :: l, h => by
    obtain ⟨a, ha⟩ := h x (List.mem_cons_self ..)
    obtain ⟨zs, has⟩ := mapM_some (f := f) (l := l) (fun i hi => h i (List.mem_cons_of_mem _ hi))
    exact ⟨a :: zs, by rw [List.mapM_cons, ha, has]; rfl⟩
theorem keys_array {P : Program} {d : Nat} {t e : TypeId} {n : Nat} {cs : List Value} (hu : P.underlying t = some (.array n e)) (hl : cs.length = P.cellsOf t)
    (h : ∀ i, i < n → ∃ la, P.keyLits d e ((cs.drop (i * P.cellsOf e)).take (P.cellsOf e)) = some la) : ∃ la, P.keyLits (d + 1) t cs = some la := by
  obtain ⟨zs, ha⟩ := mapM_some (f := fun i => P.keyLits d e ((cs.drop (i * P.cellsOf e)).take (P.cellsOf e))) (l := List.range n) (fun i hi => h i (List.mem_range.1 hi))
  refine ⟨zs.flatten, ?_⟩
  unfold Program.keyLits
  simp only [hu, if_pos hl, ha, Option.map_some]
theorem cut_at (r : RS) (off n i m : Nat) (hi : i + m ≤ n) (hn : off + n ≤ 3080) : ((((r.l.drop off).take n).drop i).take m) = (List.range m).map (fun j => r.c (off + i + j)) := by
  refine List.ext_getElem? fun j => ?_
  rw [List.getElem?_take, List.getElem?_drop, List.getElem?_take, List.getElem?_drop, List.getElem?_map]
  by_cases hj : j < m
  · rw [if_pos hj, if_pos (by omega), RS.at_ _ (by omega), List.getElem?_range hj, show off + (i + j) = off + i + j by omega]; rfl
  · rw [if_neg hj, List.getElem?_eq_none (by simp; omega)]; rfl
theorem cut_len (r : RS) (off n : Nat) (hn : off + n ≤ 3080) : ((r.l.drop off).take n).length = n := by
  rw [List.length_take, List.length_drop, RS.len]; omega
/-- A stretch of a memory whose cells are ints or bools, as an array. -/
theorem keys_part (r : RS) (t e : TypeId) (off n d : Nat) (v : Value) (la : List Lit) (hu : Tryd.prog.underlying t = some (.array n e)) (ht : Tryd.prog.cellsOf t = n) (he : Tryd.prog.cellsOf e = 1) (hn : off + n ≤ 3080) (hv : ∀ i, i < n → r.c (off + i) = v) (hk : Tryd.prog.keyLits d e [v] = some la) :
    ∃ lb, Tryd.prog.keyLits (d + 1) t ((r.l.drop off).take n) = some lb := by
  refine keys_array hu (by rw [cut_len r off n hn, ht]) fun i hi => ⟨la, ?_⟩
  rw [he, Nat.mul_one, cut_at r off n i 1 (by omega) hn]
  show Tryd.prog.keyLits d e [r.c (off + i + 0)] = some la
  rw [Nat.add_zero, hv i hi]
  exact hk
theorem keys_struct {P : Program} {d : Nat} {t : TypeId} {fs : Array Field} {cs : List Value} (hu : P.underlying t = some (.struct fs)) (hl : cs.length = P.cellsOf t) (hn : fs.all (·.name != "_") = true)
    (h : ∀ f ∈ fs.toList, ∃ la, P.keyLits d f.type ((cs.drop f.offset).take (P.cellsOf f.type)) = some la) : ∃ la, P.keyLits (d + 1) t cs = some la := by
  obtain ⟨zs, ha⟩ := mapM_some (f := fun f => P.keyLits d f.type ((cs.drop f.offset).take (P.cellsOf f.type))) (l := fs.toList) h
  refine ⟨zs.flatten, ?_⟩
  unfold Program.keyLits
  simp only [hu, if_pos (And.intro hl hn), ha, Option.map_some]
theorem zeroC_v (i : Nat) (h : i < 768) : zeroR.c (2312 + i) = if i % 6 = 5 then .bool false else .int .i64 0 := RS.cv _ h
theorem capKeys : Tryd.prog.keyLits 8 31 [.int .i64 0, .int .i64 0, .int .i64 0, .int .i64 0, .int .i64 0, .bool false] = some [.int .i64 0, .int .i64 0, .int .i64 0, .int .i64 0, .int .i64 0, .bool false] := by kernel_rfl
theorem keys_caps : ∃ lb, Tryd.prog.keyLits 9 32 ((zeroR.l.drop 2312).take 768) = some lb := by
  refine keys_array Tryd.underlying32 (by rw [cut_len _ _ _ (by decide)]; kernel_rfl) fun i hi => ⟨[.int .i64 0, .int .i64 0, .int .i64 0, .int .i64 0, .int .i64 0, .bool false], ?_⟩
  rw [show Tryd.prog.cellsOf 31 = 6 by kernel_rfl, cut_at zeroR 2312 768 (i * 6) 6 (by omega) (by decide)]
  have e : (List.range 6).map (fun j => zeroR.c (2312 + i * 6 + j)) = [.int .i64 0, .int .i64 0, .int .i64 0, .int .i64 0, .int .i64 0, .bool false] := by
    show [zeroR.c (2312 + i * 6 + 0), zeroR.c (2312 + i * 6 + 1), zeroR.c (2312 + i * 6 + 2), zeroR.c (2312 + i * 6 + 3), zeroR.c (2312 + i * 6 + 4), zeroR.c (2312 + i * 6 + 5)] = _
    have k : ∀ j, j < 6 → zeroR.c (2312 + i * 6 + j) = if j = 5 then .bool false else .int .i64 0 := fun j hj => by
      rw [Nat.add_assoc, zeroC_v _ (by omega)]
      by_cases h5 : j = 5
      · rw [if_pos h5, if_pos (by omega)]
      · rw [if_neg h5, if_neg (by omega)]
    rw [k 0 (by decide), k 1 (by decide), k 2 (by decide), k 3 (by decide), k 4 (by decide), k 5 (by decide)]
    rfl
  rw [e]
  exact capKeys
theorem keys_mem : ∃ la, Tryd.prog.keyLits 10 34 zeroR.l = some la := by
  refine keys_struct Tryd.underlying34 (by rw [RS.len]; kernel_rfl) (by kernel_rfl) fun f hf => ?_
  simp only [List.mem_cons, List.not_mem_nil, or_false] at hf
  rcases hf with rfl | rfl | rfl | rfl | rfl
  · rw [show Tryd.prog.cellsOf 26 = 8 by kernel_rfl]
    exact keys_part zeroR _ _ 0 8 8 (.bool false) [.bool false] Tryd.underlying26 (by kernel_rfl) (by kernel_rfl) (by decide) (fun i hi => by rw [Nat.zero_add, RS.co _ hi]; rfl) (by kernel_rfl)
  · rw [show Tryd.prog.cellsOf 27 = 2048 by kernel_rfl]
    exact keys_part zeroR _ _ 8 2048 8 (.int .u8 0) [.int .u8 0] Tryd.underlying27 (by kernel_rfl) (by kernel_rfl) (by decide) (fun i hi => by rw [RS.cb _ hi]; rfl) (by kernel_rfl)
  · rw [show Tryd.prog.cellsOf 28 = 128 by kernel_rfl]
    exact keys_part zeroR _ _ 2056 128 8 (.int .i64 0) [.int .i64 0] Tryd.underlying28 (by kernel_rfl) (by kernel_rfl) (by decide) (fun i hi => by rw [RS.ct _ hi]; rfl) (by kernel_rfl)
  · rw [show Tryd.prog.cellsOf 29 = 128 by kernel_rfl]
    exact keys_part zeroR _ _ 2184 128 8 (.bool false) [.bool false] Tryd.underlying29 (by kernel_rfl) (by kernel_rfl) (by decide) (fun i hi => by rw [RS.ck _ hi]; rfl) (by kernel_rfl)
  · rw [show Tryd.prog.cellsOf 32 = 768 by kernel_rfl]
    exact keys_caps
theorem mem_eq (W : World) : (Op.equalIn 10000 34 (.agg zeroR.l.toArray) (.agg zeroR.l.toArray)).run Tryd.prog W = .ok true W := by
  obtain ⟨la, hla⟩ := keys_mem
  have hf : (Value.agg zeroR.l.toArray).formed Tryd.prog 34 = true := by simp only [Value.formed, Tryd.underlying34, List.size_toArray, RS.len]; kernel_rfl
  have hc : (Value.agg zeroR.l.toArray).cells.toList = zeroR.l := by simp [Value.cells]
  obtain ⟨r, h1, h2⟩ := run_equalIn_deep (P := Tryd.prog) 9990 10 34 (by kernel_rfl) W 10 10 _ _ la la hf hf (by rw [hc]; exact hla) (by rw [hc]; exact hla)
  rw [show (10000 : Nat) = 9990 + 10 from rfl, h1, h2.2 rfl]
end Go.Proofs.YtgidnmjeifgciaaDoor
