/- The statement's own search, and its list. -/
import Derived.Test.YtlajhhecipabaaaPickA
namespace Go.Proofs.Ytlajhhecipabaaa
open Go.RowKit
set_option linter.unusedVariables false

theorem none_any (t : Int) (a : Option Addr) (len cap : Nat) (zs : List Int) (w : World) (h : Ints .i64 w a len zs) :
    Calls Try.prog 51 #[.int .i64 t, .slice a len cap] w fun e w' => e = .returned (.bool (!decide (t ∈ zs))) ∧ w = w' := by
  obtain ⟨hl, h⟩ := h
  rcases h with h | ⟨b, off, rfl, hlt, hm, hc⟩
  · subst h
    obtain rfl : zs = [] := List.length_eq_zero_iff.1 hl
    go_enter Try.func51, Try.ntmps51
    go_wp2_with fail
    go_loop [5] (fun i => i = .int .i64 0) (fun _ => 0)
    case atStart => rfl
    case round =>
      subst hrel
      go_wp2
      go_ret
      exact ⟨rfl, rfl⟩
  · clear hlt
    have HL := Lib.hid hl; clear hl
    go_enter Try.func51, Try.ntmps51
    go_wp2_with fail
    go_loop [5] (fun i => ∃ k : Nat, k ≤ len ∧ i = .int .i64 k ∧ (t ∉ zs ↔ t ∉ zs.drop k)) (fun i => len - (intOf i).toNat)
    case atStart => exact ⟨0, by omega, rfl, Iff.rfl⟩
    case round =>
      obtain ⟨k, hk, rfl, hf⟩ := hrel
      by_cases hlt : k < len
      · have hck := hc k hlt
        clear hc
        rw [idx_drop (by have := HL.out; omega)] at hf
        generalize zs.getD k 0 = x at *
        by_cases he : x = t
        · have hf2 : (!decide (t ∈ zs)) = false := by
            have : ¬ (t ∉ zs) := by rw [hf]; simp [he]
            simpa using this
          clear hf
          have HF := Lib.hid hf2; clear hf2
          have he2 : (x == t) = true := by simpa using he
          clear he
          go_wp2
          go_ret
          exact ⟨ret_bool HF.out.symm, rfl⟩
        · have hf2 : t ∉ zs ↔ t ∉ zs.drop (k + 1) := by rw [hf]; simp [Ne.symm he]
          clear hf
          have HF := Lib.hid hf2; clear hf2
          have he2 : (x == t) = false := by simpa using he
          clear he
          go_wp2
          exact ⟨⟨k + 1, by omega, by go_num, HF.out⟩, by simp [intOf]; omega⟩
      · obtain rfl : k = len := by omega
        clear hc
        have hf2 : (!decide (t ∈ zs)) = true := by
          have : t ∉ zs := by rw [hf, List.drop_of_length_le (by have := HL.out; omega)]; simp
          simpa using this
        clear hf
        have HF := Lib.hid hf2; clear hf2
        go_wp2
        go_ret
        exact ⟨ret_bool HF.out.symm, rfl⟩
theorem none_is (r : Bool) (t : Int) (a : Option Addr) (len cap : Nat) (zs : List Int) (w : World) (h : Ints .i64 w a len zs) (hr : (!decide (t ∈ zs)) = r) :
    Calls Try.prog 51 #[.int .i64 t, .slice a len cap] w fun e w' => e = .returned (.bool r) ∧ w = w' := by
  subst hr; exact none_any t a len cap zs w h

/-- What the law makes of the tags that it must not be. -/
def xL (zs : List Int) : List Int := zs.map fun z => z % 32 - 4
theorem xL_snoc {zs : List Int} {k : Nat} (h : k < zs.length) : xL (zs.take (k + 1)) = xL (zs.take k) ++ [zs.getD k 0 % 32 - 4] := by
  unfold xL
  rw [List.take_succ_eq_append_getElem h, List.map_append]
  simp only [List.map_cons, List.map_nil, List.getD, List.getElem?_eq_getElem h, Option.getD_some]

end Go.Proofs.Ytlajhhecipabaaa
