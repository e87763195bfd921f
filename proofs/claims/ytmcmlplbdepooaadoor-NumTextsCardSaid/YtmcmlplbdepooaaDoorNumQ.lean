/- num.Parse. -/
import Derived.Test.YtmcmlplbdepooaaDoorNumD
import Derived.Test.YtmcmlplbdepooaaDoorNumS
import Derived.Laws.RangeString
import Derived.Laws.RangeAny
namespace Go.Proofs.YtmcmlplbdepooaaDoor
open Go.RowKit
set_option linter.unusedVariables false

def valF (s : ByteArray) : Nat → Nat → Int → Option Int
  | 0, _, n => some n
  | f + 1, k, n => if h : k < s.size then (if (s[k]'h).toNat < 48 ∨ 57 < (s[k]'h).toNat then none else valF s f (k + 1) (n * 10 + (((s[k]'h).toNat : Int) - 48))) else some n
def parseF (s : ByteArray) (most : Int) : Option Int :=
  if h : 0 < s.size ∧ s.size ≤ 15 then
    if (s[0]'h.1).toNat = 48 ∧ 1 < s.size then none
    else match valF s s.size 0 0 with
      | none => none
      | some v => if most < v then none else some v
  else none

set_option maxHeartbeats 400000 in
theorem parse_any (s : ByteArray) (most : Int) (w : World) (hs : s.size ≤ maxLen) :
    Calls Tryd.prog 18 #[.string s, .int .i64 most] w fun e w' => e = .returned (.tuple #[.int .i64 ((parseF s most).getD 0), .bool (parseF s most).isSome]) ∧ Below w.heap.size w w' := by
  unfold maxLen at hs
  by_cases h0 : s.size = 0
  · have hp : parseF s most = none := by rw [parseF, dif_neg (by omega)]
    have HP := Lib.hid hp; clear hp
    have he : s.toList.isEmpty = true := by rw [ByteArray.toList_eq, List.isEmpty_iff_length_eq_zero]; exact h0
    go_enter Tryd.func18, Tryd.ntmps18
    go_wp2
    go_ret2
    exact ⟨ret_two (by rw [HP.out]; rfl) (by rw [HP.out]; rfl), Below.refl _ _⟩
  · have he : s.toList.isEmpty = false := by
      cases hE : s.toList.isEmpty
      · rfl
      · rw [ByteArray.toList_eq, List.isEmpty_iff_length_eq_zero] at hE; exact absurd hE h0
    by_cases h15 : 15 < s.size
    · have hp : parseF s most = none := by rw [parseF, dif_neg (by omega)]
      have HP := Lib.hid hp; clear hp
      go_enter Tryd.func18, Tryd.ntmps18
      go_wp2
      go_ret2
      exact ⟨ret_two (by rw [HP.out]; rfl) (by rw [HP.out]; rfl), Below.refl _ _⟩
    · have hpos : 0 < s.size := by omega
      have hp : parseF s most = if (s[0]'hpos).toNat = 48 ∧ 1 < s.size then none else match valF s s.size 0 0 with | none => none | some v => if most < v then none else some v := by
        rw [parseF, dif_pos ⟨hpos, by omega⟩]
      have HP := Lib.hid hp; clear hp
      by_cases h1 : (s[0]'hpos).toNat = 48 ∧ 1 < s.size
      · have hz : parseF s most = none := by rw [HP.out, if_pos h1]
        have HZ := Lib.hid hz; clear hz HP
        obtain ⟨h1a, h1b⟩ := h1
        have h1c : (((s[0]'hpos).toNat : Int) == 48) = true := by simp [h1a]
        go_enter Tryd.func18, Tryd.ntmps18
        go_wp2
        go_ret2
        exact ⟨ret_two (by rw [HZ.out]; rfl) (by rw [HZ.out]; rfl), Below.refl _ _⟩
      · have hz := HP.out
        rw [if_neg h1] at hz
        have HZ := Lib.hid hz; clear hz HP
        have H1 := Lib.hid h1
        obtain ⟨c0, hc0, h2⟩ : ∃ c0, (((s[0]'hpos).toNat : Int) == 48) = c0 ∧ (c0 = true → s.size ≤ 1) := ⟨_, rfl, fun h => by
          have : ((s[0]'hpos).toNat : Int) = 48 := by simpa using h
          omega⟩
        have H2 := Lib.hid h2; clear h2
        cases c0
        all_goals
          have h2 := H2.out
          simp only [Bool.false_eq_true, false_implies, forall_const] at h2
          go_enter Tryd.func18, Tryd.ntmps18
          go_wp2_with fail
          go_loopw [6] (fun n wr => ∃ (pos : Nat) (acc : Int), wr = w.iter s pos ∧ n = .int .i64 acc ∧ pos ≤ s.size ∧ 0 ≤ acc ∧ acc < 10 ^ pos ∧ valF s s.size 0 0 = valF s (s.size - pos) pos acc) (fun _ wr => s.size - wr.iterPos w.heap.size)
          case atStart => exact ⟨0, 0, rfl, rfl, by omega, by omega, by simp, rfl⟩
          case round =>
            obtain ⟨pos, acc, rfl, rfl, hle, a0, a1, hf⟩ := hrel
            have HF := Lib.hid hf; clear hf
            by_cases hp : pos < s.size
            · have hp14 : (10 : Int) ^ pos ≤ 10 ^ 14 := by exact_mod_cast Nat.pow_le_pow_right (n := 10) (by decide) (show pos ≤ 14 by omega)
              have hps : (10 : Int) ^ (pos + 1) = 10 ^ pos * 10 := Int.pow_succ 10 pos
              have a2 : acc < 100000000000000 := by omega
              have hv : valF s (s.size - pos) pos acc = if (s[pos]'hp).toNat < 48 ∨ 57 < (s[pos]'hp).toNat then none else valF s (s.size - (pos + 1)) (pos + 1) (acc * 10 + (((s[pos]'hp).toNat : Int) - 48)) := by
                rw [show s.size - pos = (s.size - (pos + 1)) + 1 by omega, valF, dif_pos hp]
              rw [hv] at HF
              clear hv
              by_cases ha : (s[pos]'hp).toNat < 128
              · have hnx : ∀ ty, (Instr.next (.pointer (some ⟨w.heap.size, 0, none⟩)) true ty).run Tryd.prog (w.iter s pos) = _ := fun ty => run_next_ascii w s pos ty hp ha
                generalize (s[pos]'hp).toNat = bt at *
                by_cases b1 : bt < 48
                · have HN := Lib.hid (HF.out.trans (if_pos (.inl b1))); clear HF
                  go_wp2
                  go_ret2
                  exact ⟨ret_two (by rw [HZ.out, HN.out]; rfl) (by rw [HZ.out, HN.out]; rfl), alc0 _ _⟩
                · by_cases b2 : 57 < bt
                  · have HN := Lib.hid (HF.out.trans (if_pos (.inr b2))); clear HF
                    go_wp2
                    go_ret2
                    exact ⟨ret_two (by rw [HZ.out, HN.out]; rfl) (by rw [HZ.out, HN.out]; rfl), alc0 _ _⟩
                  · have HN := Lib.hid (HF.out.trans (if_neg (by omega))); clear HF
                    go_wp2
                    exact ⟨⟨pos + 1, acc * 10 + ((bt : Int) - 48), rfl, by go_num, by omega, by omega, by omega, HN.out⟩, by simp; omega⟩
              · have HN := Lib.hid (HF.out.trans (if_pos (.inr (by omega)))); clear HF
                have hd := (decode_high s pos hp (by omega)).1
                have hnx : ∀ ty, (Instr.next (.pointer (some ⟨w.heap.size, 0, none⟩)) true ty).run Tryd.prog (w.iter s pos) = _ := fun ty => run_next_any w s pos ty hp
                go_wp2
                go_ret2
                exact ⟨ret_two (by rw [HZ.out, HN.out]; rfl) (by rw [HZ.out, HN.out]; rfl), alc0 _ _⟩
            · obtain rfl : pos = s.size := by omega
              have hnx : ∀ ty, (Instr.next (.pointer (some ⟨w.heap.size, 0, none⟩)) true ty).run Tryd.prog (w.iter s s.size) = _ := fun ty => run_next_end w s s.size ty hp
              have hv : valF s (s.size - s.size) s.size acc = some acc := by rw [Nat.sub_self, valF]
              rw [hv] at HF
              have a3 : (10 : Int) ^ s.size ≤ 10 ^ 15 := by exact_mod_cast Nat.pow_le_pow_right (n := 10) (by decide) (show s.size ≤ 15 by omega)
              have a4 : acc < 1000000000000000 := by omega
              clear a3 a1 hv
              by_cases hm : most < acc
              · have HN := Lib.hid (show parseF s most = none by rw [HZ.out, HF.out]; simp [hm])
                go_wp2
                go_ret2
                exact ⟨ret_two (by rw [HN.out]; rfl) (by rw [HN.out]; rfl), alc0 _ _⟩
              · have HN := Lib.hid (show parseF s most = some acc by rw [HZ.out, HF.out]; simp [hm])
                go_wp2
                go_ret2
                exact ⟨ret_two (by rw [HN.out]; rfl) (by rw [HN.out]; rfl), alc0 _ _⟩
end Go.Proofs.YtmcmlplbdepooaaDoor
