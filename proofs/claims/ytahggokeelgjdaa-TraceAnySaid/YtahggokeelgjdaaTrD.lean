/- Lists of things: may they be written, and their bytes. -/
import Derived.Test.YtahggokeelgjdaaTrC
namespace Go.Proofs.Ytahggokeelgjdaa
open Go.RowKit
set_option linter.unusedVariables false
set_option linter.unusedSimpArgs false

/-- A thing: its numbers, its bytes, and the slice that has them. -/
structure OV where
  o : Op7
  d : List Nat
  dv : Value
/-- A thing's cells. -/
def OvAt (W : World) (b off : Nat) (p : OV) : Prop :=
  (W.cell? ⟨b, off, none⟩ = some (.int .i64 p.o.k) ∧ W.cell? ⟨b, off + 1, none⟩ = some (.int .i64 p.o.t) ∧ W.cell? ⟨b, off + 2, none⟩ = some (.int .i64 p.o.a) ∧ W.cell? ⟨b, off + 3, none⟩ = some (.int .i64 p.o.b) ∧ W.cell? ⟨b, off + 4, none⟩ = some (.int .i64 p.o.v) ∧ W.cell? ⟨b, off + 5, none⟩ = some (.int .i64 p.o.n) ∧ W.cell? ⟨b, off + 6, none⟩ = some (.int .i64 p.o.m) ∧ W.cell? ⟨b, off + 7, none⟩ = some p.dv) ∧ RD W p.dv p.d ∧ p.o.ok
theorem OvAt.keep {W W' : World} {b off : Nat} {p : OV} (h : OvAt W b off p) (hb : b < W.heap.size) (hB : Below W.heap.size W W') : OvAt W' b off p := by
  obtain ⟨⟨h0, h1, h2, h3, h4, h5, h6, h7⟩, h8, h9⟩ := h
  have e := hB.block b hb
  exact ⟨⟨(World.cell?_of_block e).trans h0, (World.cell?_of_block e).trans h1, (World.cell?_of_block e).trans h2, (World.cell?_of_block e).trans h3, (World.cell?_of_block e).trans h4, (World.cell?_of_block e).trans h5, (World.cell?_of_block e).trans h6, (World.cell?_of_block e).trans h7⟩, h8.keep hB, h9⟩
/-- A slice of things. -/
def OPS (W : World) (v : Value) (l : List OV) : Prop :=
  ∃ A c, v = .slice A l.length c ∧ l.length ≤ 9223372036854775807 ∧ (l = [] ∨ ∃ b off, A = some ⟨b, off, none⟩ ∧ b < W.heap.size ∧ ∀ i p, l[i]? = some p → OvAt W b (off + i * 8) p)
theorem OPS.keep {W W' : World} {v : Value} {l : List OV} (h : OPS W v l) (hB : Below W.heap.size W W') : OPS W' v l := by
  obtain ⟨A, c, e, h1, h2⟩ := h
  refine ⟨A, c, e, h1, ?_⟩
  rcases h2 with h2 | ⟨b, off, e2, h3, h4⟩
  · exact .inl h2
  · exact .inr ⟨b, off, e2, Nat.lt_of_lt_of_le h3 hB.size, fun i p hp => (h4 i p hp).keep h3 hB⟩
def mayB (l : List OV) : Bool := decide (l.length ≤ 500 ∧ ∀ p ∈ l, p.d.length ≤ 4096)
def bytesB (l : List OV) : List Nat := [67, 84, 49] ++ vb (zig l.length) ++ l.flatMap fun p => oneB p.o p.d
theorem rd_len {W : World} {v : Value} {d : List Nat} (h : RD W v d) : ∃ A c, v = .slice A d.length c ∧ d.length ≤ 140737488351232 := by
  obtain ⟨A, c, e, h1, _⟩ := h
  exact ⟨A, c, e, h1⟩
theorem refMay (v : Value) (l : List OV) (W : World) (h : OPS W v l) :
    Calls Try.prog 11 #[v] W fun e w' => e = .returned (.bool (mayB l)) ∧ W = w' := by
  have HO := Lib.hid h
  obtain ⟨A, c, rfl, h1, _⟩ := h
  by_cases hl : l.length ≤ 500
  · have i0 : ¬ (500 : Int) < l.length := by omega
    go_enter Try.func11, Try.ntmps11
    go_wp2_with fail
    go_loopw [3] (fun v3 wr => ∃ i : Nat, i ≤ l.length ∧ v3 = .int .i64 i ∧ Hid (∀ p ∈ l.take i, p.d.length ≤ 4096) ∧ W = wr) (fun v3 _ => l.length - (intOf v3).toNat)
    case atStart => exact ⟨0, by omega, rfl, Lib.hid (by simp), rfl⟩
    case round =>
      obtain ⟨i, hi, rfl, HA, rfl⟩ := hrel
      by_cases hlt : i < l.length
      · obtain ⟨p, hp⟩ : ∃ p, l[i]? = some p := ⟨_, List.getElem?_eq_getElem hlt⟩
        obtain ⟨A2, c2, e2, _, rfl | ⟨b, off, e3, hb, hc⟩⟩ := HO.out
        · simp at hlt
        · injection e2 with e4 e5 e6
          subst e4
          subst e3
          obtain ⟨⟨_, _, _, _, _, _, _, r7⟩, hrd, _⟩ := hc i p hp
          obtain ⟨A3, c3, e7, hd⟩ := rd_len hrd
          rw [e7] at r7
          have i1 : (i : Int) < l.length := by omega
          have HP := Lib.hid hp
          clear hc hrd e7 hp e6 e5
          by_cases hdl : p.d.length ≤ 4096
          · have i2 : ¬ (4096 : Int) < p.d.length := by omega
            go_wp2_with fail
            go_roundw
            case rel => exact ⟨i + 1, by omega, by go_num, Lib.hid (fun q hq => by
              rw [List.take_add_one, HP.out] at hq
              rcases List.mem_append.1 hq with h | h
              · exact HA.out q h
              · simp at h; subst h; exact hdl), trivial⟩
            case measure => simp [intOf] <;> omega
          · have i2 : (4096 : Int) < p.d.length := by omega
            go_wp2
            go_ret
            refine ⟨ret_bool ?_, rfl⟩
            symm
            rw [mayB, decide_eq_false_iff_not]
            rintro ⟨_, h⟩
            exact hdl (h p (List.mem_of_getElem? HP.out))
      · obtain rfl : i = l.length := by omega
        have HA2 : Hid (mayB l = true) := Lib.hid (by
          rw [mayB, decide_eq_true_iff]
          have := HA.out
          rw [List.take_length] at this
          exact ⟨hl, this⟩)
        clear HA
        go_wp2
        go_ret
        exact ⟨ret_bool HA2.out.symm, rfl⟩
  · have i0 : (500 : Int) < l.length := by omega
    go_enter Try.func11, Try.ntmps11
    go_wp2
    go_ret
    refine ⟨ret_bool ?_, rfl⟩
    symm
    rw [mayB, decide_eq_false_iff_not]
    rintro ⟨h, _⟩
    exact hl h
end Go.Proofs.Ytahggokeelgjdaa
