/- The awake of the laws of package trace. -/
import Derived.Test.YtahggokeelgjdaaTrO
namespace Go.Proofs.Ytahggokeelgjdaa
open Go.RowKit
set_option linter.unusedVariables false
set_option linter.unusedSimpArgs false

/-- The string of bytes. -/
def bs (xs : List Nat) : ByteArray := strOfNums (xs.map fun (x : Nat) => (x : Int))
theorem sb_bs (xs : List Nat) (h : ∀ x ∈ xs, x < 256) : sb (bs xs) = xs := sb_str xs h
theorem conv_bs (W : World) (v : Value) (xs : List Nat) (h : RD W v xs) (hx : ∀ x ∈ xs, x < 256) : (convert 23 9 v).run Try.prog W = .ok (.string (bs xs)) W := by
  obtain ⟨s, hs, hc⟩ := conv_rd W v xs h hx
  rw [hc, sb_ext (hs.trans (sb_bs xs hx).symm)]
theorem bs_eq (xs ys : List Nat) (hx : ∀ x ∈ xs, x < 256) (hy : ∀ x ∈ ys, x < 256) : ((bs xs).toList == (bs ys).toList) = decide (xs = ys) := by
  rw [tl_eq, sb_bs xs hx, sb_bs ys hy]
theorem vb_lt : ∀ (x : Nat), ∀ y ∈ vb x, y < 256 := by
  intro x
  induction x using Nat.strongRecOn with
  | _ x ih =>
    intro y hy
    rw [vb.eq_1] at hy
    split at hy
    · simp at hy; omega
    · rcases List.mem_cons.1 hy with rfl | h
      · have := Nat.mod_lt x (show 0 < 128 by decide); omega
      · exact ih (x / 128) (by omega) y h
theorem oneB_lt (o : Op7) (d : List Nat) (h : ∀ x ∈ d, x < 256) : ∀ x ∈ oneB o d, x < 256 := by
  intro x hx
  rw [oneB, List.mem_append, List.mem_append] at hx
  rcases hx with (hx | hx) | hx
  · obtain ⟨n, _, hn⟩ := List.mem_flatMap.1 hx
    exact vb_lt _ x hn
  · exact vb_lt _ x hx
  · exact h x hx
theorem bytesB_lt (l : List OV) (h : ∀ p ∈ l, ∀ x ∈ p.d, x < 256) : ∀ x ∈ bytesB l, x < 256 := by
  intro x hx
  rw [bytesB, List.mem_append, List.mem_append] at hx
  rcases hx with (hx | hx) | hx
  · simp at hx; omega
  · exact vb_lt _ x hx
  · obtain ⟨p, hp, hx⟩ := List.mem_flatMap.1 hx
    exact oneB_lt _ _ (h p hp) x hx
theorem bytesB_len (l : List OV) (hm : mayB l = true) (hok : ∀ p ∈ l, p.o.ok) : (bytesB l).length ≤ 3000000 := by
  have hmm : l.length ≤ 500 ∧ ∀ p ∈ l, p.d.length ≤ 4096 := by rwa [mayB, decide_eq_true_iff] at hm
  have h1 := ones_len l (fun p hp => ⟨hok p hp, hmm.2 p hp⟩)
  have h2 : (vb (zig (l.length : Int))).length ≤ 10 := vb_len _ (zig_lt _ (by omega))
  rw [bytesB, List.length_append, List.length_append]
  have h3 : ([67, 84, 49] : List Nat).length = 3 := rfl
  omega
def lA : List OV := [⟨⟨1, 0, 0, 0, 0, -70, 0⟩, [], .slice none 0 0⟩]
theorem vb_s (x : Nat) (h : x < 128) : vb x = [x] := by rw [vb.eq_1, if_pos h]
theorem bytes_lA : bytesB lA = [67, 84, 49, 2, 2, 0, 0, 0, 0, 139, 1, 0, 0] := by
  have h1 : vb (zig 1) = [2] := vb_s 2 (by decide)
  have h0 : vb (zig 0) = [0] := vb_s 0 (by decide)
  have h7 : vb (zig (-70)) = [139, 1] := by rw [show zig (-70) = 139 from rfl, vb.eq_1, if_neg (by decide), vb_s _ (by decide)]
  simp [bytesB, lA, oneB, vbs, Op7.l, h0, h1, h7]
theorem bytes_nil : bytesB [] = [67, 84, 49, 0] := by
  have h0 : vb (zig 0) = [0] := vb_s 0 (by decide)
  simp [bytesB, h0]
theorem may_lA : mayB lA = true := by
  rw [mayB, decide_eq_true_iff]
  simp [lA]
theorem may_nil : mayB [] = true := by
  rw [mayB, decide_eq_true_iff]
  simp
theorem ok_lA : ∀ p ∈ lA, p.o.ok := by
  intro p hp
  simp only [lA, List.mem_singleton] at hp
  subst hp
  intro x hx
  simp only [Op7.l, List.mem_cons, List.not_mem_nil, or_false] at hx
  omega
theorem ops_lA (W : World) (E : TypeId) : OPS (W.alloc (.cells #[.int .i64 1, .int .i64 0, .int .i64 0, .int .i64 0, .int .i64 0, .int .i64 (-70), .int .i64 0, .slice none 0 0] E)) (.slice (some ⟨W.heap.size, 0, none⟩) 1 1) lA := by
  refine ⟨_, 1, rfl, by decide, .inr ⟨W.heap.size, 0, rfl, by simp, fun i p hp => ?_⟩⟩
  have hpl : p ∈ lA := List.mem_of_getElem? hp
  refine ⟨?_, ?_, ok_lA p hpl⟩
  · match i with
    | 0 =>
      obtain rfl : (⟨⟨1, 0, 0, 0, 0, -70, 0⟩, [], .slice none 0 0⟩ : OV) = p := Option.some.inj hp
      refine ⟨?_, ?_, ?_, ?_, ?_, ?_, ?_, ?_⟩ <;> simp
    | i + 1 => simp [lA] at hp
  · simp only [lA, List.mem_singleton] at hpl
    subst hpl
    exact ⟨none, 0, rfl, by simp, .inl rfl⟩
theorem ops_nil (W : World) : OPS W (.slice none 0 0) [] := ⟨none, 0, rfl, by decide, .inl rfl⟩
set_option maxHeartbeats 1600000 in
theorem awake54 (W : World) : Calls Try.prog 8 #[] W fun e w' => e = .returned (.bool true) ∧ Below W.heap.size W w' := by
  go_enter Try.func8, Try.ntmps8
  go_wp2_with fail
  with_reducible refine Calls.mono (trBytes _ lA _ (ops_lA W _)) ?_
  rintro e w1 (⟨_, b1, v1, rfl, hb1, hv1, hB1, _⟩ | ⟨hf, _⟩)
  · have HR1 : Hid (RD w1 v1 (bytesB lA)) := Lib.hid (BY.rd hv1 (by rw [bytes_lA]; decide))
    have HB1 : Hid (Below W.heap.size W w1) := Lib.hid (thn (alc0 _ _) hB1)
    clear hb1 hv1 hB1
    go_wp2_with fail
    with_reducible refine Calls.mono (trRead_ok v1 lA w1 HR1.out may_lA ok_lA (by rw [bytes_lA]; decide)) ?_
    rintro e w2 ⟨⟨v2, l2, rfl, ho2, hod⟩, hB2⟩
    have HB2 : Hid (Below W.heap.size W w2) := Lib.hid (HB1.out.trans (hB2.mono HB1.out.size))
    have hlen : l2.length = 1 := by have := congrArg List.length hod; simpa [odOf, lA] using this
    match l2, hlen with
    | [p], _ =>
    have hpo : p.o = ⟨1, 0, 0, 0, 0, -70, 0⟩ := by simp [odOf, lA] at hod; exact hod.1
    have HO2 := Lib.hid ho2
    obtain ⟨A2, c2, rfl, _, h0 | ⟨b, off, rfl, hb, hc⟩⟩ := ho2
    · cases h0
    obtain ⟨⟨_, _, _, _, _, r5, _, _⟩, _⟩ := hc 0 p rfl
    rw [hpo] at r5
    have HRb : Hid (∀ w', Below w2.heap.size w2 w' → w'.cell? ⟨b, off + 5, none⟩ = some (.int .i64 (-70))) := Lib.hid (fun w' hw => (hw.cell (p := ⟨b, off + 5, none⟩) hb).trans (by simpa using r5))
    clear hc r5 hod hB2 hb
    go_wp2_with fail
    with_reducible refine Calls.mono (trBytes _ [] w2 (ops_nil _)) ?_
    rintro e w3 (⟨_, b3, v3, rfl, hb3, hv3, hB3, _⟩ | ⟨hf, _⟩)
    · have hr3 : RD w3 v3 (bytesB []) := BY.rd hv3 (by rw [bytes_nil]; decide)
      have hcv := conv_bs w3 v3 _ hr3 (by rw [bytes_nil]; decide)
      rw [bytes_nil] at hcv
      have hbs : bs [67, 84, 49, 0] = ⟨#[67, 84, 49, 0]⟩ := by rfl
      rw [hbs] at hcv
      have r5 := HRb.out w3 hB3
      have HB3 : Hid (Below W.heap.size W w3) := Lib.hid (HB2.out.trans (hB3.mono HB2.out.size))
      clear hb3 hv3 hB3
      obtain ⟨A3, c3, rfl, _⟩ := hr3
      go_wp2
      go_ret
      exact ⟨by rfl, by first | exact HB3.out | exact below_drewN HB3.out _ | exact HB3.out.drew⟩
    · rw [may_nil] at hf; cases hf
  · rw [may_lA] at hf; cases hf
end Go.Proofs.Ytahggokeelgjdaa
