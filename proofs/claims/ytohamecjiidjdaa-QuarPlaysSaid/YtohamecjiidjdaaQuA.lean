/- Contracts of package quar: Len, List. -/
import Derived.Test.YtohamecjiidjdaaItm
import Derived.Deep.LoopGhost
namespace Go.Proofs.Ytohamecjiidjdaa
open Go.RowKit
set_option linter.unusedVariables false
set_option linter.unusedSimpArgs false

/-- A quarantine at block g: the items ms in block b. -/
def QuB (g b : Nat) (W : World) (ms : List It) : Prop :=
  g < W.heap.size ∧ b ≠ g ∧ (∀ o, W.frozen? ⟨g, o, none⟩ = false) ∧ ∃ v, W.cell? ⟨g, 0, none⟩ = some v ∧ VI b W v ms
theorem QuB.keep {g b : Nat} {W W' : World} {ms : List It} (h : QuB g b W ms) (hs : W.heap.size ≤ W'.heap.size) (hg : W'.heap[g]? = W.heap[g]?) (hb : b < W.heap.size → W'.heap[b]? = W.heap[b]?) : QuB g b W' ms := by
  obtain ⟨h1, h2, h3, v, h5, h6⟩ := h
  exact ⟨Nat.lt_of_lt_of_le h1 hs, h2, fun o => (World.frozen?_of_block hg).trans (h3 o), v, (World.cell?_of_block hg).trans h5, h6.keep hs hb⟩
theorem QuB.below {g b : Nat} {W W' : World} {ms : List It} (h : QuB g b W ms) (hb : Below W.heap.size W W') : QuB g b W' ms := h.keep hb.size (hb.block g h.1) (hb.block b)
theorem qlen (g b : Nat) (ms : List It) (W : World) (h : QuB g b W ms) :
    Calls Try.prog 12 #[.pointer (some ⟨g, 0, none⟩)] W fun e w' => e = .returned (.int .i64 ms.length) ∧ W = w' := by
  obtain ⟨h1, h2, h3, v, h5, h6⟩ := h
  rcases vi_open h6 with ⟨rfl, rfl⟩ | ⟨off, c, rfl, h7, h8, h9, h10⟩
  · clear h6
    go_enter Try.func12, Try.ntmps12
    go_wp2
    go_ret
    exact ⟨rfl, rfl⟩
  · clear h6 h10
    go_enter Try.func12, Try.ntmps12
    go_wp2
    go_ret
    exact ⟨rfl, rfl⟩
theorem nqlen (W : World) : Calls Try.prog 12 #[.pointer none] W fun e w' => e = .returned (.int .i64 0) ∧ W = w' := by
  go_enter Try.func12, Try.ntmps12
  go_wp2
  go_ret
  exact ⟨rfl, rfl⟩
theorem qlist (g b : Nat) (ms : List It) (W : World) (h : QuB g b W ms) (hn : ms.length ≤ 1000) :
    Calls Try.prog 11 #[.pointer (some ⟨g, 0, none⟩)] W (CloneI W ms) := by
  obtain ⟨h1, h2, h3, v, h5, h6⟩ := h
  have H := Lib.hid h6
  clear h6
  go_enter Try.func11, Try.ntmps11
  go_wp2_with fail
  refine (clone_item _ _ _ _ H.out hn).mono ?_
  rintro e w1 ⟨b', v', rfl, h7, h8, h9⟩
  have H8 := Lib.hid h8
  clear h8
  go_wp2
  go_ret
  exact ⟨b', v', rfl, h7, H8.out, h9⟩
theorem nqlist (W : World) : Calls Try.prog 11 #[.pointer none] W fun e w' => e = .returned (.slice none 0 0) ∧ W = w' := by
  go_enter Try.func11, Try.ntmps11
  go_wp2
  go_ret
  exact ⟨rfl, rfl⟩
def sumR (l : List It) : Int := l.foldl (fun m p => m + p.room) 0
theorem sumR_take (l : List It) (i : Nat) (q : It) (h : l[i]? = some q) : sumR (l.take (i + 1)) = sumR (l.take i) + q.room := by
  rw [List.take_add_one, h]
  simp [sumR]
theorem sumR_bd : ∀ (l : List It), (∀ q ∈ l, 0 ≤ q.room ∧ q.room ≤ 1023) → 0 ≤ sumR l ∧ sumR l ≤ 1023 * l.length := by
  suffices h : ∀ (l : List It) (m : Int), (∀ q ∈ l, 0 ≤ q.room ∧ q.room ≤ 1023) → m ≤ l.foldl (fun m p => m + p.room) m ∧ l.foldl (fun m p => m + p.room) m ≤ m + 1023 * l.length from fun l hl => by have := h l 0 hl; unfold sumR; omega
  intro l
  induction l with
  | nil => intro m _; simp
  | cons a l ih =>
    intro m hl
    have h1 := ih (m + a.room) (fun q hq => hl q (by simp [hq]))
    have h2 := hl a (by simp)
    simp only [List.foldl_cons, List.length_cons]
    omega
end Go.Proofs.Ytohamecjiidjdaa
