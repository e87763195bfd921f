/- Dice: numbers drawn by the rule. -/
import Derived.Test.YtahggokeelgjdaaRows
import Derived.Test.YtahggokeelgjdaaInt
import Derived.WalkKit
import Derived.ProofKit
import Derived.WalkLawsBesides
import Derived.WalkSpells
import Derived.Lib.Hide
import Derived.Deep.RegionHeld3
import Derived.Deep.DeepCutAuto
import Derived.Deep.CutBlock
namespace Go.Proofs.Ytahggokeelgjdaa
open Go.RowKit
set_option linter.unusedVariables false
set_option linter.unusedSimpArgs false

def nx (s : Nat) : Nat := (s * 2862933555777941757 + 3037000493) % 18446744073709551616
def bel (s n : Nat) : Nat := nx s / 8589934592 % n
theorem nx_lt (s : Nat) : nx s < 18446744073709551616 := Nat.mod_lt _ (by decide)
theorem bel_lt (s n : Nat) (h : 1 ≤ n) : bel s n < n := Nat.mod_lt _ h
/-- Of the blocks that stood, only g is another one. -/
def Kps (g : Nat) (W W' : World) : Prop := Below g W W' ∧ ∀ i, i < W.heap.size → i ≠ g → W'.heap[i]? = W.heap[i]?
theorem Kps.refl (g : Nat) (W : World) : Kps g W W := ⟨Below.refl _ _, fun _ _ _ => rfl⟩
theorem Kps.of {g : Nat} {W W' : World} (h : Below W.heap.size W W') (hg : g ≤ W.heap.size) : Kps g W W' := ⟨h.mono hg, fun i hi _ => h.block i hi⟩
theorem Kps.trans {g : Nat} {W w1 w2 : World} (h : Kps g W w1) (k : Kps g w1 w2) : Kps g W w2 := ⟨h.1.trans k.1, fun i hi hn => (k.2 i (Nat.lt_of_lt_of_le hi h.1.size) hn).trans (h.2 i hi hn)⟩
theorem Kps.set (g o : Nat) (W : World) (v : Value) : Kps g W (W.setCell ⟨g, o, none⟩ v) := ⟨(Below.refl _ _).setCell (Nat.le_refl g) _, fun i _ hn => Below.heap_setCell _ _ _ _ (by simpa using hn)⟩
/-- The dice at g stand at s. -/
def DC (g s : Nat) (W : World) : Prop := g < W.heap.size ∧ W.cell? ⟨g, 0, none⟩ = some (.int .u64 (s : Int)) ∧ W.frozen? ⟨g, 0, none⟩ = false ∧ s < 18446744073709551616
theorem DC.keep {g s : Nat} {W W' : World} (h : DC g s W) (hs : W.heap.size ≤ W'.heap.size) (e : W'.heap[g]? = W.heap[g]?) : DC g s W' :=
  ⟨Nat.lt_of_lt_of_le h.1 hs, (World.cell?_of_block e).trans h.2.1, (World.frozen?_of_block e).trans h.2.2.1, h.2.2.2⟩
theorem DC.below {g s : Nat} {W W' : World} (h : DC g s W) (hb : Below W.heap.size W W') : DC g s W' := h.keep hb.size (hb.block g h.1)
theorem DC.set {g s : Nat} {W : World} (h : DC g s W) (s' : Nat) (hs : s' < 18446744073709551616) : DC g s' (W.setCell ⟨g, 0, none⟩ (.int .u64 (s' : Int))) :=
  ⟨by simpa [World.setCell] using h.1, World.cell?_setCell_same _ _ _ h.2.1, by rw [World.frozen?_setCell]; exact h.2.2.1, hs⟩
/-- The dice stand at s' now; what is none of theirs stands. -/
def DP (g s' : Nat) (W W' : World) : Prop := DC g s' W' ∧ Kps g W W'
theorem DP.dc {g s' : Nat} {W W' : World} (h : DP g s' W W') : DC g s' W' := h.1
theorem DP.kp {g s' : Nat} {W W' : World} (h : DP g s' W W') : Kps g W W' := h.2
theorem DP.trans {g s s' : Nat} {W w1 w2 : World} (h : DP g s W w1) (k : DP g s' w1 w2) : DP g s' W w2 := ⟨k.1, h.2.trans k.2⟩
theorem DP.below {g s : Nat} {W w1 w2 : World} (h : DP g s W w1) (hb : Below w1.heap.size w1 w2) : DP g s W w2 := ⟨h.1.below hb, h.2.trans (Kps.of hb (Nat.le_of_lt h.1.1))⟩
theorem DP.start {g s : Nat} {W : World} (h : DC g s W) : DP g s W W := ⟨h, Kps.refl _ _⟩
set_option maxRecDepth 100000 in
set_option maxHeartbeats 1600000 in
theorem dbelow (g s n : Nat) (W : World) (h : DC g s W) (hn : 1 ≤ n) (hn9 : n ≤ 9223372036854775807) :
    Calls Try.prog 20 #[.pointer (some ⟨g, 0, none⟩), .int .i64 (n : Int)] W fun e w' => e = .returned (.int .i64 (bel s n : Nat)) ∧ DP g (nx s) W w' := by
  have h0 := h
  obtain ⟨h1, h2, h3, h4⟩ := h0
  obtain ⟨p, hp⟩ : ∃ p : Nat, s * 2862933555777941757 % 18446744073709551616 = p := ⟨_, rfl⟩
  obtain ⟨q, hq⟩ : ∃ q : Nat, nx s = q := ⟨_, rfl⟩
  have hq2 : (p + 3037000493) % 18446744073709551616 = q := by rw [← hp, ← hq, nx]; omega
  have f1 : IntKind.u64.wrap ((s : Int) * 2862933555777941757) = (p : Int) := by rw [IntKind.wrap_u64]; omega
  have f2 : IntKind.u64.wrap ((p : Int) + 3037000493) = (q : Int) := by rw [IntKind.wrap_u64]; omega
  have hq9 : q < 18446744073709551616 := by omega
  obtain ⟨r, hr⟩ : ∃ r : Nat, q / 8589934592 = r := ⟨_, rfl⟩
  have f3 : (q : Int) / 8589934592 = (r : Int) := by omega
  have f3' : (q : Int) / 2 ^ 33 = (r : Int) := by rw [show (2 : Int) ^ 33 = 8589934592 from rfl]; omega
  have hr9 : (r : Int) ≤ 2147483647 := by omega
  obtain ⟨v, hv⟩ : ∃ v : Nat, r % n = v := ⟨_, rfl⟩
  have f4 : (r : Int) % (n : Int) = (v : Int) := by rw [← hv]; exact (Int.natCast_emod r n).symm
  have f4' : (r : Int).tmod (n : Int) = (v : Int) := by rw [Int.tmod_eq_emod_of_nonneg (by omega)]; exact f4
  have hvb : bel s n = v := by rw [bel, hq, hr, hv]
  have hnI : ¬ (n : Int) < 1 := by omega
  have hn0 : ¬ (n : Int) = 0 := by omega
  have HD := Lib.hid (h.set q hq9)
  have HV := Lib.hid (And.intro hvb hq)
  clear hvb hq hp hq2 hr hv hq9 h4 hn hn9 h
  go_enter Try.func20, Try.ntmps20
  go_wp2
  go_ret
  exact ⟨by rw [HV.out.1]; rfl, by rw [HV.out.2]; exact ⟨HD.out, Kps.set _ _ _ _⟩⟩
theorem dbelow_none (g : Nat) (n : Int) (W : World) (hn : n < 1) :
    Calls Try.prog 20 #[.pointer (some ⟨g, 0, none⟩), .int .i64 n] W fun e w' => e = .returned (.int .i64 0) ∧ W = w' := by
  go_enter Try.func20, Try.ntmps20
  go_wp2
  go_ret
  exact ⟨rfl, rfl⟩
theorem dupto (g s n : Nat) (W : World) (h : DC g s W) (hn : 1 ≤ n) (hn9 : n ≤ 1099511627776) :
    Calls Try.prog 41 #[.pointer (some ⟨g, 0, none⟩), .int .i64 (n : Int)] W fun e w' => e = .returned (.int .i64 (bel s n : Nat)) ∧ DP g (nx s) W w' := by
  have hnI : ¬ (n : Int) < 1 := by omega
  have H := Lib.hid h
  clear h
  go_enter Try.func41, Try.ntmps41
  go_wp2_with fail
  with_reducible refine Calls.mono (dbelow g s n _ H.out hn (by omega)) ?_
  rintro e w1 ⟨rfl, hd⟩
  have HD := Lib.hid hd
  clear hd
  go_wp2
  go_ret
  exact ⟨rfl, HD.out⟩
theorem dfrom (g s : Nat) (a b : Int) (n : Nat) (W : World) (h : DC g s W) (hn : 1 ≤ n) (hab : b - a + 1 = (n : Int)) (ha : -1099511627776 ≤ a ∧ a ≤ 1099511627776) (hn9 : n ≤ 1099511627776) :
    Calls Try.prog 36 #[.pointer (some ⟨g, 0, none⟩), .int .i64 a, .int .i64 b] W fun e w' => e = .returned (.int .i64 (a + (bel s n : Nat))) ∧ DP g (nx s) W w' := by
  have H := Lib.hid h
  have hlt := bel_lt s n hn
  obtain ⟨d, hd⟩ : ∃ d, b - a = d := ⟨_, rfl⟩
  have hd1 : d + 1 = (n : Int) := by omega
  have hb : -1099511627776 ≤ b ∧ b ≤ 3298534883328 := by omega
  have hdb : -1099511627776 ≤ d ∧ d ≤ 3298534883328 := by omega
  obtain ⟨ha1, ha2⟩ := ha
  obtain ⟨hb1, hb2⟩ := hb
  obtain ⟨hd2, hd3⟩ := hdb
  obtain ⟨v, hv⟩ : ∃ v, bel s n = v := ⟨_, rfl⟩
  rw [hv] at hlt ⊢
  have HV := Lib.hid hv
  have hvI : (v : Int) ≤ 1099511627776 := by omega
  clear h hab hv
  go_enter Try.func36, Try.ntmps36
  go_wp2_with fail
  with_reducible refine Calls.mono (dupto g s n _ H.out hn hn9) ?_
  rintro e w1 ⟨rfl, hd⟩
  rw [HV.out]
  have HD := Lib.hid hd
  clear hd
  go_wp2
  go_ret
  exact ⟨rfl, HD.out⟩
theorem dnew (s : Nat) (hs : s < 18446744073709551616) (W : World) :
    Calls Try.prog 19 #[.int .u64 (s : Int)] W fun e w' => ∃ g, e = .returned (.pointer (some ⟨g, 0, none⟩)) ∧ DC g s w' ∧ W.heap.size ≤ g ∧ Below W.heap.size W w' := by
  go_enter Try.func19, Try.ntmps19
  go_wp2
  go_ret
  exact ⟨_, rfl, ⟨by simp, by simp, by simp, hs⟩, Nat.le_refl _, alc0 _ _⟩
end Go.Proofs.Ytahggokeelgjdaa
