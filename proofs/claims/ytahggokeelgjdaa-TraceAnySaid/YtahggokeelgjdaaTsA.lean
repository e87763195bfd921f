/- What the statement's own Read wants: parts of bytes, eight numbers in a block, and what bytes must be where they are a list's. -/
import Derived.Test.YtahggokeelgjdaaTrZ
import Derived.Test.YtahggokeelgjdaaTrV
namespace Go.Proofs.Ytahggokeelgjdaa
open Go.RowKit
set_option linter.unusedVariables false
set_option linter.unusedSimpArgs false

/-- A part of bytes that are read. -/
theorem rd_sub {W : World} {bd off n c : Nat} {xs : List Nat} (h : RD W (.slice (some ⟨bd, off, none⟩) n c) xs) (k m : Nat) (hkm : k + m ≤ n) (A : Option Addr) (c2 : Nat) (hA : 0 < m → A = some ⟨bd, off + k, none⟩) : RD W (.slice A m c2) ((xs.drop k).take m) := by
  obtain ⟨A0, c0, e, hl, h2⟩ := h
  injection e with e1 e2 e3
  have hlen : ((xs.drop k).take m).length = m := by rw [List.length_take, List.length_drop]; omega
  refine ⟨A, c2, by rw [hlen], by rw [hlen]; omega, ?_⟩
  by_cases hm : m = 0
  · exact .inl (by subst hm; rfl)
  · right
    rcases h2 with rfl | ⟨bd', off', e4, hb, hat⟩
    · simp at e2; omega
    · rw [e4] at e1
      injection e1 with e1
      injection e1 with e5 e6 _
      subst e5
      subst e6
      refine ⟨bd, off + k, hA (by omega), hb, fun j u hu => ?_⟩
      have hjm : j < m := by
        have := (List.getElem?_eq_some_iff.1 hu).1
        rw [u8s_len, hlen] at this
        exact this
      rw [Nat.add_assoc]
      refine hat (k + j) u ?_
      rw [← hu]
      simp only [u8s, List.getElem?_map, List.getElem?_take, if_pos hjm, List.getElem?_drop]
theorem rd_drop {W : World} {bd off n c : Nat} {xs : List Nat} (h : RD W (.slice (some ⟨bd, off, none⟩) n c) xs) (k : Nat) (hk : k ≤ n) (A : Option Addr) (c2 : Nat) (hA : k < n → A = some ⟨bd, off + k, none⟩) : RD W (.slice A (n - k) c2) (xs.drop k) := by
  have hn : xs.length = n := by
    obtain ⟨A0, c0, e, _, _⟩ := h
    injection e with _ e2 _
    exact e2.symm
  have := rd_sub h k (n - k) (by omega) A c2 (fun hp => hA (by omega))
  rwa [List.take_of_length_le (by rw [List.length_drop, hn]; exact Nat.le_refl _)] at this
/-- Eight numbers in a block. -/
def Arr8 (B : Nat) (W : World) (f : Nat → Int) : Prop := B < W.heap.size ∧ (∀ j, j < 8 → W.cell? ⟨B, j, none⟩ = some (.int .i64 (f j))) ∧ ∀ o, W.frozen? ⟨B, o, none⟩ = false
theorem Arr8.keep {B : Nat} {W W' : World} {f : Nat → Int} (h : Arr8 B W f) (hs : W.heap.size ≤ W'.heap.size) (hg : W'.heap[B]? = W.heap[B]?) : Arr8 B W' f :=
  ⟨Nat.lt_of_lt_of_le h.1 hs, fun j hj => (World.cell?_of_block hg).trans (h.2.1 j hj), fun o => (World.frozen?_of_block hg).trans (h.2.2 o)⟩
theorem Arr8.set {B : Nat} {W : World} {f : Nat → Int} (h : Arr8 B W f) (i : Nat) (hi : i < 8) (v : Int) : Arr8 B (W.setCell ⟨B, i, none⟩ (.int .i64 v)) (fun j => if j = i then v else f j) := by
  refine ⟨by rw [size_set]; exact h.1, fun j hj => ?_, fun o => by rw [World.frozen?_setCell]; exact h.2.2 o⟩
  by_cases e : j = i
  · subst e
    simp only [if_true]
    exact World.cell?_setCell_same _ _ _ (h.2.1 j hj)
  · simp only [if_neg e]
    rw [set_other _ _ _ _ _ (Ne.symm e)]
    exact h.2.1 j hj
theorem arr8_new (W : World) (E : TypeId) : Arr8 W.heap.size (W.alloc (.cells #[.int .i64 0, .int .i64 0, .int .i64 0, .int .i64 0, .int .i64 0, .int .i64 0, .int .i64 0, .int .i64 0] E)) (fun _ => 0) := by
  refine ⟨by simp, fun j hj => ?_, fun o => by simp⟩
  have hj8 : j = 0 ∨ j = 1 ∨ j = 2 ∨ j = 3 ∨ j = 4 ∨ j = 5 ∨ j = 6 ∨ j = 7 := by omega
  rcases hj8 with rfl | rfl | rfl | rfl | rfl | rfl | rfl | rfl <;> simp
def inR (n : Int) : Prop := -9223372036854775808 ≤ n ∧ n ≤ 9223372036854775807
theorem num_inj {a b : Int} {r s : List Nat} (ha : inR a) (hb : inR b) (h : vb (zig a) ++ r = vb (zig b) ++ s) : a = b ∧ r = s := by
  have h1 := rdN_zig a r ha
  have h2 := rdN_zig b s hb
  rw [h, h2] at h1
  have h3 := Option.some.inj h1
  injection h3 with e1 e2
  refine ⟨?_, e2.symm⟩
  rw [← unzig_zig a, ← e1, unzig_zig]
theorem vbs_cons (n : Int) (l : List Int) : vbs (n :: l) = vb (zig n) ++ vbs l := by simp [vbs]
theorem vbs_snoc (l : List Int) (n : Int) : vbs (l ++ [n]) = vbs l ++ vb (zig n) := by simp [vbs]
theorem vbs_cancel : ∀ (ns ms : List Int) (r s : List Nat), (∀ n ∈ ns, inR n) → (∀ n ∈ ms, inR n) → ns.length ≤ ms.length → vbs ns ++ r = vbs ms ++ s → ns = ms.take ns.length ∧ r = vbs (ms.drop ns.length) ++ s
  | [], ms, r, s, _, _, _, h => ⟨by simp, by simpa [vbs] using h⟩
  | n :: ns, [], r, s, _, _, hl, _ => by simp at hl
  | n :: ns, m :: ms, r, s, hn, hm, hl, h => by
    rw [vbs_cons, vbs_cons, List.append_assoc, List.append_assoc] at h
    obtain ⟨e1, e2⟩ := num_inj (hn n (by simp)) (hm m (by simp)) h
    obtain ⟨e3, e4⟩ := vbs_cancel ns ms r s (fun x hx => hn x (by simp [hx])) (fun x hx => hm x (by simp [hx])) (by simpa using hl) e2
    refine ⟨?_, by simpa using e4⟩
    rw [List.length_cons, List.take_succ_cons, ← e3, e1]
/-- A thing's eight numbers. -/
def n8 (p : OV) : List Int := p.o.l ++ [(p.d.length : Int)]
theorem n8_len (p : OV) : (n8 p).length = 8 := rfl
theorem oneB_n8 (p : OV) : oneB p.o p.d = vbs (n8 p) ++ p.d := by
  rw [oneB, n8, vbs_snoc, List.append_assoc]
theorem n8_in {p : OV} (h : p.o.ok) (hd : p.d.length ≤ 4096) : ∀ n ∈ n8 p, inR n := by
  intro n hn
  rcases List.mem_append.1 hn with h1 | h1
  · exact h n h1
  · simp at h1
    subst h1
    exact ⟨by omega, by omega⟩
/-- Bytes are a list's. -/
def CAN (xs : List Nat) (l : List OV) : Prop := mayB l = true ∧ (∀ p ∈ l, p.o.ok) ∧ bytesB l = xs
def flat (l : List OV) : List Nat := l.flatMap fun p => oneB p.o p.d
theorem CAN.may {xs : List Nat} {l : List OV} (h : CAN xs l) : l.length ≤ 500 ∧ ∀ p ∈ l, p.d.length ≤ 4096 := by
  have := h.1
  rwa [mayB, decide_eq_true_iff] at this
theorem CAN.xs {xs : List Nat} {l : List OV} (h : CAN xs l) : xs = [67, 84, 49] ++ (vb (zig (l.length : Int)) ++ flat l) := by
  rw [← h.2.2, bytesB, List.append_assoc]
  rfl
theorem vb_pos (z : Nat) : 0 < (vb z).length := by
  obtain ⟨ds, b, h, _⟩ := vb_all z
  rw [h]
  simp
theorem CAN.four {xs : List Nat} {l : List OV} (h : CAN xs l) : 4 ≤ xs.length := by
  have h1 := congrArg List.length h.xs
  have h2 := vb_pos (zig (l.length : Int))
  rw [List.length_append, List.length_append] at h1
  have h3 : ([67, 84, 49] : List Nat).length = 3 := rfl
  omega
theorem CAN.pre {xs : List Nat} {l : List OV} (h : CAN xs l) : xs.take 3 = [67, 84, 49] := by
  rw [h.xs]; rfl
theorem CAN.tail {xs : List Nat} {l : List OV} (h : CAN xs l) : xs.drop 3 = vb (zig (l.length : Int)) ++ flat l := by
  rw [h.xs]; rfl
theorem CAN.len {xs : List Nat} {l : List OV} (h : CAN xs l) : inR (l.length : Int) := by
  have := h.may.1
  exact ⟨by omega, by omega⟩
/-- What is left is a list's: of M things, i are read. -/
def LEFT (xs : List Nat) (m at_ : Nat) : Prop := ∀ l, CAN xs l → ∃ l2 : List OV, l2.length = m ∧ (∀ p ∈ l2, p.o.ok ∧ p.d.length ≤ 4096) ∧ xs.drop at_ = flat l2
theorem LEFT.next {xs : List Nat} {m at_ : Nat} (h : LEFT xs (m + 1) at_) {l : List OV} (hl : CAN xs l) : ∃ (p : OV) (l3 : List OV), l3.length = m ∧ (p.o.ok ∧ p.d.length ≤ 4096) ∧ (∀ p ∈ l3, p.o.ok ∧ p.d.length ≤ 4096) ∧ xs.drop at_ = vbs (n8 p) ++ (p.d ++ flat l3) := by
  obtain ⟨l2, h1, h2, h3⟩ := h l hl
  match l2, h1 with
  | p :: l3, h1 =>
    refine ⟨p, l3, by simpa using h1, h2 p (by simp), fun q hq => h2 q (by simp [hq]), ?_⟩
    rw [h3, flat, List.flatMap_cons, oneB_n8, List.append_assoc]
    rfl
end Go.Proofs.Ytahggokeelgjdaa
