/- Package derive: what comes of it, as relations; a capability in a block; the statements' own example. -/
import Derived.Test.YtcknbbffeeldpaaDerive
import Derived.Deep.DeepCutAuto
namespace Go.Proofs.Ytcknbbffeeldpaa
open Go.RowKit
set_option linter.unusedVariables false
set_option linter.unusedSimpArgs false

/-- A capability in block x. -/
def CapAt (x : Nat) (W : World) (b l c p t : Int) (v : Bool) : Prop :=
  x < W.heap.size ∧ W.cell? ⟨x, 0, none⟩ = some (.int .i64 b) ∧ W.cell? ⟨x, 1, none⟩ = some (.int .i64 l) ∧ W.cell? ⟨x, 2, none⟩ = some (.int .i64 c) ∧ W.cell? ⟨x, 3, none⟩ = some (.int .i64 p) ∧ W.cell? ⟨x, 4, none⟩ = some (.int .i64 t) ∧ W.cell? ⟨x, 5, none⟩ = some (.bool v) ∧ ∀ o, o < 6 → W.frozen? ⟨x, o, none⟩ = false
theorem CapAt.keep {x : Nat} {W W' : World} {b l c p t : Int} {v : Bool} (h : CapAt x W b l c p t v) (hs : W.heap.size ≤ W'.heap.size) (hk : W'.heap[x]? = W.heap[x]?) : CapAt x W' b l c p t v := by
  obtain ⟨h0, h1, h2, h3, h4, h5, h6, h7⟩ := h
  have e : ∀ o, W'.cell? ⟨x, o, none⟩ = W.cell? ⟨x, o, none⟩ := fun o => World.cell?_of_block hk
  exact ⟨Nat.lt_of_lt_of_le h0 hs, (e 0).trans h1, (e 1).trans h2, (e 2).trans h3, (e 3).trans h4, (e 4).trans h5, (e 5).trans h6, fun o ho => (World.frozen?_of_block hk).trans (h7 o ho)⟩
theorem CapAt.below {x : Nat} {W W' : World} {b l c p t : Int} {v : Bool} (h : CapAt x W b l c p t v) (hb : Below W.heap.size W W') : CapAt x W' b l c p t v := h.keep hb.size (hb.block x h.1)
theorem CapAt.far {x y o : Nat} {W : World} {b l c p t : Int} {v : Bool} {a : Value} (h : CapAt x W b l c p t v) (hn : x ≠ y) : CapAt x (W.setCell ⟨y, o, none⟩ a) b l c p t v :=
  h.keep (by simp [World.setCell]) (Below.heap_setCell _ _ _ _ (by simpa using hn))
theorem CapAt.new (W : World) (b l c p t : Int) (v : Bool) (T : TypeId) : CapAt W.heap.size (W.alloc (.cells #[.int .i64 b, .int .i64 l, .int .i64 c, .int .i64 p, .int .i64 t, .bool v] T)) b l c p t v := by
  refine ⟨by simp, by simp, by simp, by simp, by simp, by simp, by simp, fun o ho => ?_⟩
  simp
theorem CapAt.s0 {x : Nat} {W : World} {b l c p t : Int} {v : Bool} (h : CapAt x W b l c p t v) (b' : Int) : CapAt x (W.setCell ⟨x, 0, none⟩ (.int .i64 b')) b' l c p t v := by
  obtain ⟨h0, h1, h2, h3, h4, h5, h6, h7⟩ := h
  exact ⟨by simp [World.setCell]; exact h0, (World.cell?_setCell_same _ _ _ h1), (World.cell?_setCell_other _ _ _ _ (by simp)).trans h2, (World.cell?_setCell_other _ _ _ _ (by simp)).trans h3, (World.cell?_setCell_other _ _ _ _ (by simp)).trans h4, (World.cell?_setCell_other _ _ _ _ (by simp)).trans h5, (World.cell?_setCell_other _ _ _ _ (by simp)).trans h6, fun o ho => by simp [h7 o ho]⟩
theorem CapAt.s1 {x : Nat} {W : World} {b l c p t : Int} {v : Bool} (h : CapAt x W b l c p t v) (l' : Int) : CapAt x (W.setCell ⟨x, 1, none⟩ (.int .i64 l')) b l' c p t v := by
  obtain ⟨h0, h1, h2, h3, h4, h5, h6, h7⟩ := h
  exact ⟨by simp [World.setCell]; exact h0, (World.cell?_setCell_other _ _ _ _ (by simp)).trans h1, (World.cell?_setCell_same _ _ _ h2), (World.cell?_setCell_other _ _ _ _ (by simp)).trans h3, (World.cell?_setCell_other _ _ _ _ (by simp)).trans h4, (World.cell?_setCell_other _ _ _ _ (by simp)).trans h5, (World.cell?_setCell_other _ _ _ _ (by simp)).trans h6, fun o ho => by simp [h7 o ho]⟩
theorem CapAt.s2 {x : Nat} {W : World} {b l c p t : Int} {v : Bool} (h : CapAt x W b l c p t v) (c' : Int) : CapAt x (W.setCell ⟨x, 2, none⟩ (.int .i64 c')) b l c' p t v := by
  obtain ⟨h0, h1, h2, h3, h4, h5, h6, h7⟩ := h
  exact ⟨by simp [World.setCell]; exact h0, (World.cell?_setCell_other _ _ _ _ (by simp)).trans h1, (World.cell?_setCell_other _ _ _ _ (by simp)).trans h2, (World.cell?_setCell_same _ _ _ h3), (World.cell?_setCell_other _ _ _ _ (by simp)).trans h4, (World.cell?_setCell_other _ _ _ _ (by simp)).trans h5, (World.cell?_setCell_other _ _ _ _ (by simp)).trans h6, fun o ho => by simp [h7 o ho]⟩
theorem CapAt.s3 {x : Nat} {W : World} {b l c p t : Int} {v : Bool} (h : CapAt x W b l c p t v) (p' : Int) : CapAt x (W.setCell ⟨x, 3, none⟩ (.int .i64 p')) b l c p' t v := by
  obtain ⟨h0, h1, h2, h3, h4, h5, h6, h7⟩ := h
  exact ⟨by simp [World.setCell]; exact h0, (World.cell?_setCell_other _ _ _ _ (by simp)).trans h1, (World.cell?_setCell_other _ _ _ _ (by simp)).trans h2, (World.cell?_setCell_other _ _ _ _ (by simp)).trans h3, (World.cell?_setCell_same _ _ _ h4), (World.cell?_setCell_other _ _ _ _ (by simp)).trans h5, (World.cell?_setCell_other _ _ _ _ (by simp)).trans h6, fun o ho => by simp [h7 o ho]⟩
theorem CapAt.s4 {x : Nat} {W : World} {b l c p t : Int} {v : Bool} (h : CapAt x W b l c p t v) (t' : Int) : CapAt x (W.setCell ⟨x, 4, none⟩ (.int .i64 t')) b l c p t' v := by
  obtain ⟨h0, h1, h2, h3, h4, h5, h6, h7⟩ := h
  exact ⟨by simp [World.setCell]; exact h0, (World.cell?_setCell_other _ _ _ _ (by simp)).trans h1, (World.cell?_setCell_other _ _ _ _ (by simp)).trans h2, (World.cell?_setCell_other _ _ _ _ (by simp)).trans h3, (World.cell?_setCell_other _ _ _ _ (by simp)).trans h4, (World.cell?_setCell_same _ _ _ h5), (World.cell?_setCell_other _ _ _ _ (by simp)).trans h6, fun o ho => by simp [h7 o ho]⟩
theorem CapAt.s5 {x : Nat} {W : World} {b l c p t : Int} {v : Bool} (h : CapAt x W b l c p t v) (v' : Bool) : CapAt x (W.setCell ⟨x, 5, none⟩ (.bool v')) b l c p t v' := by
  obtain ⟨h0, h1, h2, h3, h4, h5, h6, h7⟩ := h
  exact ⟨by simp [World.setCell]; exact h0, (World.cell?_setCell_other _ _ _ _ (by simp)).trans h1, (World.cell?_setCell_other _ _ _ _ (by simp)).trans h2, (World.cell?_setCell_other _ _ _ _ (by simp)).trans h3, (World.cell?_setCell_other _ _ _ _ (by simp)).trans h4, (World.cell?_setCell_other _ _ _ _ (by simp)).trans h5, (World.cell?_setCell_same _ _ _ h6), fun o ho => by simp [h7 o ho]⟩
theorem CapAt.zero {x : Nat} {W : World} {b l c p t : Int} {v : Bool} (h : CapAt x W b l c p t v) : CapAt x ((((((W.setCell ⟨x, 0, none⟩ (.int .i64 0)).setCell ⟨x, 1, none⟩ (.int .i64 0)).setCell ⟨x, 2, none⟩ (.int .i64 0)).setCell ⟨x, 3, none⟩ (.int .i64 0)).setCell ⟨x, 4, none⟩ (.int .i64 0)).setCell ⟨x, 5, none⟩ (.bool false)) 0 0 0 0 0 false :=
  (((((h.s0 0).s1 0).s2 0).s3 0).s4 0).s5 false

def CZ (b' l' c' p' t' : Int) (v' : Bool) : Prop := b' = 0 ∧ l' = 0 ∧ c' = 0 ∧ p' = 0 ∧ t' = 0 ∧ v' = false
def CE (b l c p t : Int) (b' l' c' p' t' : Int) (v' : Bool) : Prop := b = b' ∧ l = l' ∧ c = c' ∧ p = p' ∧ t = t' ∧ v' = true
def BR (b l c p t : Int) (v : Bool) (n b' l' c' p' t' : Int) (v' : Bool) (e' : Int) : Prop :=
  ((v && capOkB b l c p t) = false ∧ CZ b' l' c' p' t' v' ∧ e' = 7) ∨ ((v && capOkB b l c p t) = true ∧ n < 1 ∧ CZ b' l' c' p' t' v' ∧ e' = 1) ∨ ((v && capOkB b l c p t) = true ∧ 1 ≤ n ∧ insideB b l c n = false ∧ CZ b' l' c' p' t' v' ∧ e' = 9) ∨ ((v && capOkB b l c p t) = true ∧ 1 ≤ n ∧ insideB b l c n = true ∧ CE c n c p t b' l' c' p' t' v' ∧ e' = 0)
def DR (b l c p t : Int) (v : Bool) (n b' l' c' p' t' : Int) (v' : Bool) (e' : Int) : Prop :=
  ((v && capOkB b l c p t) = false ∧ CZ b' l' c' p' t' v' ∧ e' = 7) ∨ ((v && capOkB b l c p t) = true ∧ ¬ (0 ≤ n ∧ n ≤ 31) ∧ CZ b' l' c' p' t' v' ∧ e' = 1) ∨ ((v && capOkB b l c p t) = true ∧ (0 ≤ n ∧ n ≤ 31) ∧ CE b l c (plessI p n) t b' l' c' p' t' v' ∧ e' = 0)
def MR (b l c p t : Int) (v : Bool) (n b' l' c' p' t' : Int) (v' : Bool) (e' : Int) : Prop :=
  ((v && capOkB b l c p t) = false ∧ CZ b' l' c' p' t' v' ∧ e' = 7) ∨ ((v && capOkB b l c p t) = true ∧ (n > 1048576 ∨ (¬ n > 1048576 ∧ n < -1048576)) ∧ CZ b' l' c' p' t' v' ∧ e' = 9) ∨ ((v && capOkB b l c p t) = true ∧ (-1048576 ≤ n ∧ n ≤ 1048576) ∧ CE b l (b + n) p t b' l' c' p' t' v' ∧ e' = 0)
theorem cz : CZ 0 0 0 0 0 false := ⟨rfl, rfl, rfl, rfl, rfl, rfl⟩
theorem ce (b l c p t : Int) : CE b l c p t b l c p t true := ⟨rfl, rfl, rfl, rfl, rfl, rfl⟩
theorem br_ex (b l c p t : Int) (v : Bool) (n : Int) : ∃ b' l' c' p' t' v' e', BR b l c p t v n b' l' c' p' t' v' e' := by
  cases h : (v && capOkB b l c p t)
  · exact ⟨0, 0, 0, 0, 0, false, 7, .inl ⟨h, cz, rfl⟩⟩
  · by_cases hn : n < 1
    · exact ⟨0, 0, 0, 0, 0, false, 1, .inr (.inl ⟨h, hn, cz, rfl⟩)⟩
    · cases hi : insideB b l c n
      · exact ⟨0, 0, 0, 0, 0, false, 9, .inr (.inr (.inl ⟨h, by omega, hi, cz, rfl⟩))⟩
      · exact ⟨c, n, c, p, t, true, 0, .inr (.inr (.inr ⟨h, by omega, hi, ce _ _ _ _ _, rfl⟩))⟩
theorem dr_ex (b l c p t : Int) (v : Bool) (n : Int) : ∃ b' l' c' p' t' v' e', DR b l c p t v n b' l' c' p' t' v' e' := by
  cases h : (v && capOkB b l c p t)
  · exact ⟨0, 0, 0, 0, 0, false, 7, .inl ⟨h, cz, rfl⟩⟩
  · by_cases hn : 0 ≤ n ∧ n ≤ 31
    · exact ⟨b, l, c, _, t, true, 0, .inr (.inr ⟨h, hn, ce _ _ _ _ _, rfl⟩)⟩
    · exact ⟨0, 0, 0, 0, 0, false, 1, .inr (.inl ⟨h, hn, cz, rfl⟩)⟩
theorem mr_ex (b l c p t : Int) (v : Bool) (n : Int) : ∃ b' l' c' p' t' v' e', MR b l c p t v n b' l' c' p' t' v' e' := by
  cases h : (v && capOkB b l c p t)
  · exact ⟨0, 0, 0, 0, 0, false, 7, .inl ⟨h, cz, rfl⟩⟩
  · by_cases hn : -1048576 ≤ n ∧ n ≤ 1048576
    · exact ⟨b, l, _, p, t, true, 0, .inr (.inr ⟨h, hn, ce _ _ _ _ _, rfl⟩)⟩
    · exact ⟨0, 0, 0, 0, 0, false, 9, .inr (.inl ⟨h, by omega, cz, rfl⟩)⟩
theorem ok_base {b l c p t : Int} {v : Bool} (h : (v && capOkB b l c p t) = true) : v = true ∧ (0 ≤ b ∧ b < 262144 ∧ 1 ≤ l ∧ l ≤ 262144 - b) ∧ (b - 1048576 ≤ c ∧ c ≤ b + 1048576) ∧ (0 ≤ p ∧ p ≤ 31) ∧ (0 ≤ t ∧ t ≤ 15) := by
  simp only [capOkB, pmayB, Bool.and_eq_true, mayB_iff, decide_eq_true_eq] at h
  exact ⟨h.1, h.2.1, h.2.2.1, h.2.2.2.1, h.2.2.2.2⟩
theorem dbounds_is (b l c p t : Int) (v : Bool) (n b' l' c' p' t' : Int) (v' : Bool) (e' : Int) (w : World) (h : BR b l c p t v n b' l' c' p' t' v' e') :
    Calls Try.prog 11 #[.agg #[.int .i64 b, .int .i64 l, .int .i64 c, .int .i64 p, .int .i64 t, .bool v], .int .i64 n] w fun e w' => e = .returned (.tuple #[.agg #[.int .i64 b', .int .i64 l', .int .i64 c', .int .i64 p', .int .i64 t', .bool v'], .int .i64 e']) ∧ Below w.heap.size w w' := by
  rcases h with ⟨h, ⟨rfl, rfl, rfl, rfl, rfl, rfl⟩, rfl⟩ | ⟨h, hn, ⟨rfl, rfl, rfl, rfl, rfl, rfl⟩, rfl⟩ | ⟨h, hn, hi, ⟨rfl, rfl, rfl, rfl, rfl, rfl⟩, rfl⟩ | ⟨h, hn, hi, ⟨rfl, rfl, rfl, rfl, rfl, rfl⟩, rfl⟩
  · exact dbounds_dead b l c p t n v w (Lib.hid h)
  all_goals obtain rfl := (ok_base h).1
  · exact dbounds_inp b l c p t n w (Lib.hid h) hn
  · exact dbounds_out b l c p t n w (Lib.hid h) hn hi
  · exact dbounds_yes b l _ _ _ _ w (Lib.hid h) hn hi
theorem ddrop_is (b l c p t : Int) (v : Bool) (n b' l' c' p' t' : Int) (v' : Bool) (e' : Int) (w : World) (h : DR b l c p t v n b' l' c' p' t' v' e') :
    Calls Try.prog 12 #[.agg #[.int .i64 b, .int .i64 l, .int .i64 c, .int .i64 p, .int .i64 t, .bool v], .int .i64 n] w fun e w' => e = .returned (.tuple #[.agg #[.int .i64 b', .int .i64 l', .int .i64 c', .int .i64 p', .int .i64 t', .bool v'], .int .i64 e']) ∧ Below w.heap.size w w' := by
  rcases h with ⟨h, ⟨rfl, rfl, rfl, rfl, rfl, rfl⟩, rfl⟩ | ⟨h, hn, ⟨rfl, rfl, rfl, rfl, rfl, rfl⟩, rfl⟩ | ⟨h, hn, ⟨rfl, rfl, rfl, rfl, rfl, rfl⟩, rfl⟩
  · exact ddrop_dead b l c p t n v w (Lib.hid h)
  all_goals obtain rfl := (ok_base h).1
  · exact ddrop_inp b l c p t n w (Lib.hid h) hn
  · exact ddrop_yes _ _ _ p _ n w (Lib.hid h) hn
theorem dmove_is (b l c p t : Int) (v : Bool) (n b' l' c' p' t' : Int) (v' : Bool) (e' : Int) (w : World) (h : MR b l c p t v n b' l' c' p' t' v' e') :
    Calls Try.prog 13 #[.agg #[.int .i64 b, .int .i64 l, .int .i64 c, .int .i64 p, .int .i64 t, .bool v], .int .i64 n] w fun e w' => e = .returned (.tuple #[.agg #[.int .i64 b', .int .i64 l', .int .i64 c', .int .i64 p', .int .i64 t', .bool v'], .int .i64 e']) ∧ Below w.heap.size w w' := by
  rcases h with ⟨h, ⟨rfl, rfl, rfl, rfl, rfl, rfl⟩, rfl⟩ | ⟨h, hn, ⟨rfl, rfl, rfl, rfl, rfl, rfl⟩, rfl⟩ | ⟨h, hn, ⟨rfl, rfl, rfl, rfl, rfl, rfl⟩, rfl⟩
  · exact dmove_dead b l c p t n v w (Lib.hid h)
  all_goals obtain ⟨rfl, ⟨b1, b2, _⟩, _⟩ := ok_base h
  · exact dmove_out b l c p t n w (Lib.hid h) hn
  · exact dmove_yes _ _ c _ _ n w (Lib.hid h) hn ⟨b1, b2⟩
theorem rmayv_is (r : Bool) (b l c p t : Int) (w : World) (h : capOkB b l c p t = r) :
    Calls Try.prog 10 #[.agg #[.int .i64 b, .int .i64 l, .int .i64 c, .int .i64 p, .int .i64 t, .bool true]] w fun e w' => e = .returned (.bool r) ∧ Below w.heap.size w w' := by
  subst h; exact rmay_any b l c p t true w
theorem c12awake_any (w : World) :
    Calls Try.prog 14 #[] w fun e w' => e = .returned (.bool true) ∧ Below w.heap.size w w' := by
  have h1 : MR 32 16 32 31 3 true 8 32 16 40 31 3 true 0 := .inr (.inr ⟨by decide, by decide, ⟨rfl, rfl, rfl, rfl, rfl, rfl⟩, rfl⟩)
  have h2 : BR 32 16 40 31 3 true 4 40 4 40 31 3 true 0 := .inr (.inr (.inr ⟨by decide, by decide, by decide, ⟨rfl, rfl, rfl, rfl, rfl, rfl⟩, rfl⟩))
  have h3 : DR 40 4 40 31 3 true 2 40 4 40 29 3 true 0 := .inr (.inr ⟨by decide, by decide, ⟨rfl, rfl, rfl, by decide +kernel, rfl, rfl⟩, rfl⟩)
  have H1 := Lib.hid h1; have H2 := Lib.hid h2; have H3 := Lib.hid h3
  clear h1 h2 h3
  go_enter Try.func14, Try.ntmps14
  go_wp2_with fail
  refine (dmove_is _ _ _ _ _ _ _ _ _ _ _ _ _ _ _ H1.out).mono ?_
  rintro e w1 ⟨rfl, hb1⟩
  go_wp2_with fail
  refine (dbounds_is _ _ _ _ _ _ _ _ _ _ _ _ _ _ _ H2.out).mono ?_
  rintro e w2 ⟨rfl, hb2⟩
  go_wp2_with fail
  refine (ddrop_is _ _ _ _ _ _ _ _ _ _ _ _ _ _ _ H3.out).mono ?_
  rintro e w3 ⟨rfl, hb3⟩
  go_wp2
  go_ret
  exact ⟨rfl, alc (thn (alc (thn (alc (thn (alc0 _ _) hb1) _) hb2) _) hb3) _⟩
end Go.Proofs.Ytcknbbffeeldpaa
