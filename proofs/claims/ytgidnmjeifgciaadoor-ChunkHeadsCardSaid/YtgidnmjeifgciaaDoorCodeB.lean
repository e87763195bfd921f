/- The walk of CodeBack. -/
import Derived.Test.YtgidnmjeifgciaaDoorCodeS
import Derived.StillTailTactics
import Derived.Deep.AppendLies
import Derived.Laws.OwnMore
namespace Go.Proofs.YtgidnmjeifgciaaDoor
set_option maxRecDepth 100000
open Go.RowKit
set_option linter.unusedVariables false
set_option linter.unusedSimpArgs false

/-- Three ints at block z. -/
def At3 (z : Nat) (W : World) (n0 n1 n2 : Int) : Prop := z < W.heap.size ∧ W.cell? ⟨z, 0, none⟩ = some (.int .i64 n0) ∧ W.cell? ⟨z, 1, none⟩ = some (.int .i64 n1) ∧ W.cell? ⟨z, 2, none⟩ = some (.int .i64 n2)
theorem At3.new (W : World) (n0 n1 n2 : Int) (T : TypeId) : At3 W.heap.size (W.alloc (.cells #[.int .i64 n0, .int .i64 n1, .int .i64 n2] T)) n0 n1 n2 := by
  refine ⟨by simp, by simp, by simp, by simp⟩
theorem At3.keep {z : Nat} {W W' : World} {n0 n1 n2 : Int} (h : At3 z W n0 n1 n2) (hs : W.heap.size ≤ W'.heap.size) (hk : W'.heap[z]? = W.heap[z]?) : At3 z W' n0 n1 n2 := by
  obtain ⟨h0, h1, h2, h3⟩ := h
  have e : ∀ o, W'.cell? ⟨z, o, none⟩ = W.cell? ⟨z, o, none⟩ := fun o => World.cell?_of_block hk
  exact ⟨Nat.lt_of_lt_of_le h0 hs, (e 0).trans h1, (e 1).trans h2, (e 2).trans h3⟩
/-- What the walk of CodeBack keeps: the capability, what was read, its three numbers, its bytes. -/
def CB (x y z g : Nat) (W : World) (b l c p t n0 n1 n2 : Int) (f : Nat → Nat) : Prop := CapAt x W b l c p t true ∧ CapAt y W b l c p t true ∧ At3 z W n0 n1 n2 ∧ RowU g 16 W f
theorem CB.below {x y z g : Nat} {W W' : World} {b l c p t n0 n1 n2 : Int} {f : Nat → Nat} (h : CB x y z g W b l c p t n0 n1 n2 f) (hb : Below W.heap.size W W') : CB x y z g W' b l c p t n0 n1 n2 f :=
  ⟨h.1.below hb, h.2.1.below hb, h.2.2.1.keep hb.size (hb.block z h.2.2.1.1), h.2.2.2.below hb⟩
theorem CB.grown {x y z g q : Nat} {W W' : World} {b l c p t n0 n1 n2 : Int} {f : Nat → Nat} (h : CB x y z g W b l c p t n0 n1 n2 f) (hg : W.grownBy W' (some q)) (hx : x ≠ q) (hy : y ≠ q) (hz : z ≠ q) (hgq : g ≠ q) : CB x y z g W' b l c p t n0 n1 n2 f :=
  have k : ∀ i, i < W.heap.size → i ≠ q → W'.heap[i]? = W.heap[i]? := fun i hi hn => hg.block i hi (fun e => hn (by injection e))
  ⟨h.1.keep hg.size (k x h.1.1 hx), h.2.1.keep hg.size (k y h.2.1.1 hy), h.2.2.1.keep hg.size (k z h.2.2.1.1 hz), h.2.2.2.keep hg.size (k g h.2.2.2.1 hgq)⟩
def u8s (l : List Nat) : List Value := l.map fun (n : Nat) => Value.int .u8 (n : Int)
def three (n : Nat) : List Nat := [n % 256, n / 256 % 256, n / 65536 % 256]
def WN (i : Nat) (T0 T1 T2 : List Nat) : List Nat := match i with
  | 0 => [197]
  | 1 => 197 :: T0
  | 2 => 197 :: (T0 ++ T1)
  | _ => 197 :: (T0 ++ T1 ++ T2)
def WL (i : Nat) (T0 T1 T2 : List Nat) : List Value := u8s (WN i T0 T1 T2)
theorem wn_all (B L D P T : Nat) : WN 3 (three B) (three L) (three D) ++ [P, T, 0, 0, 0, 0] = (List.range 16).map (codeF B L D P T) := by
  rw [show List.range 16 = [0, 1, 2, 3, 4, 5, 6, 7, 8, 9, 10, 11, 12, 13, 14, 15] from rfl]
  simp only [List.map_cons, List.map_nil, codeF_0, codeF_10, codeF_11, codeF_B _ _ _ _ _ 1 (by omega), codeF_B _ _ _ _ _ 2 (by omega), codeF_B _ _ _ _ _ 3 (by omega), codeF_L _ _ _ _ _ 4 (by omega), codeF_L _ _ _ _ _ 5 (by omega), codeF_L _ _ _ _ _ 6 (by omega), codeF_D _ _ _ _ _ 7 (by omega), codeF_D _ _ _ _ _ 8 (by omega), codeF_D _ _ _ _ _ 9 (by omega), codeF_hi _ _ _ _ _ 12 (by omega), codeF_hi _ _ _ _ _ 13 (by omega), codeF_hi _ _ _ _ _ 14 (by omega), codeF_hi _ _ _ _ _ 15 (by omega)]
  simp [WN, three]
theorem row_own {w : World} {base cap q : Nat} {B L D P T : Nat} (hq : q < w.heap.size) (h : w.ownsRow base 5 1 (.slice (some ⟨q, 0, none⟩) 16 cap) 16 (u8s (WN 3 (three B) (three L) (three D) ++ [P, T, 0, 0, 0, 0]))) :
    RowU q 16 w (codeF B L D P T) := by
  rw [wn_all] at h
  refine ⟨hq, fun i hi => ⟨?_, h.frozenAt i⟩⟩
  rw [h.cellAt i (by omega)]
  simp [u8s, hi]

/-- A number of three bytes, as the walk meets it. -/
structure Num3 (n X0 Y X1 X2 : Nat) : Prop where
  r : (n : Int).tmod 256 = X0
  r2 : (n : Int) % 256 = X0
  q : (n : Int).tdiv 256 = Y
  q2 : (n : Int) / 256 = Y
  qr : (Y : Int).tmod 256 = X1
  qr2 : (Y : Int) % 256 = X1
  h : (n : Int).tdiv 65536 = X2
  h2 : (n : Int) / 65536 = X2
  w0 : IntKind.u8.wrap (X0 : Int) = X0
  w1 : IntKind.u8.wrap (X1 : Int) = X1
  w2 : IntKind.u8.wrap (X2 : Int) = X2
  w3 : IntKind.i64.wrap (Y : Int) = Y
  w4 : IntKind.i64.wrap (X2 : Int) = X2
theorem num3 (n : Nat) (h : n < 16777216) : ∃ X0 Y X1 X2, Num3 n X0 Y X1 X2 ∧ three n = [X0, X1, X2] := by
  refine ⟨n % 256, n / 256, n / 256 % 256, n / 65536 % 256, ⟨?_, ?_, ?_, ?_, ?_, ?_, ?_, ?_, ?_, ?_, ?_, ?_, ?_⟩, rfl⟩
  · rw [Int.tmod_eq_emod_of_nonneg (by omega)]; omega
  · omega
  · rw [Int.tdiv_eq_ediv_of_nonneg (by omega)]; omega
  · omega
  · rw [Int.tmod_eq_emod_of_nonneg (by omega)]; omega
  · omega
  · rw [Int.tdiv_eq_ediv_of_nonneg (by omega)]; omega
  · omega
  · rw [IntKind.wrap_u8]; omega
  · rw [IntKind.wrap_u8]; omega
  · rw [IntKind.wrap_u8]; omega
  · exact IntWalk.i64_in _ (by omega)
  · exact IntWalk.i64_in _ (by omega)

theorem CB.lts {x y z g : Nat} {W : World} {b l c p t n0 n1 n2 : Int} {f : Nat → Nat} (h : CB x y z g W b l c p t n0 n1 n2 f) : x < W.heap.size ∧ y < W.heap.size ∧ z < W.heap.size ∧ g < W.heap.size := ⟨h.1.1, h.2.1.1, h.2.2.1.1, h.2.2.2.1⟩
theorem cells3_new (W : World) (a b c : Value) (T : TypeId) : ∀ j u, [a, b, c][j]? = some u → (W.alloc (.cells #[a, b, c] T)).cell? ((⟨W.heap.size, 0, none⟩ : Addr).add j) = some u := by
  intro j u hu
  have hadd : (⟨W.heap.size, 0, none⟩ : Addr).add j = ⟨W.heap.size, j, none⟩ := by unfold Addr.add; split <;> simp_all
  rw [hadd, World.cell?_alloc_mark]
  simpa using hu
theorem cells6_new (W : World) (a b c d e f : Value) (T : TypeId) : ∀ j u, [a, b, c, d, e, f][j]? = some u → (W.alloc (.cells #[a, b, c, d, e, f] T)).cell? ((⟨W.heap.size, 0, none⟩ : Addr).add j) = some u := by
  intro j u hu
  have hadd : (⟨W.heap.size, 0, none⟩ : Addr).add j = ⟨W.heap.size, j, none⟩ := by unfold Addr.add; split <;> simp_all
  rw [hadd, World.cell?_alloc_mark]
  simpa using hu
theorem capOk_nat {b l c p t : Int} (h : capOkB b l c p t = true) : ∃ B L D P T : Nat, b = B ∧ l = L ∧ c - B + 1048576 = D ∧ p = P ∧ t = T ∧ B < 16777216 ∧ L < 16777216 ∧ D < 16777216 ∧ P < 256 ∧ T < 256 := by
  obtain ⟨_, hb, hc, hp, ht⟩ := ok_base (v := true) (by rw [h]; rfl : (true && capOkB b l c p t) = true)
  refine ⟨b.toNat, l.toNat, (c - b + 1048576).toNat, p.toNat, t.toNat, ?_⟩
  omega
end Go.Proofs.YtgidnmjeifgciaaDoor
