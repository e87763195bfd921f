/- Numbers as bytes: what trace.appendNumber and the statement's own Num write. -/
import Derived.Test.YtahggokeelgjdaaVz
import Derived.Test.YtahggokeelgjdaaInt
import Derived.Lib.SliceRun
import Derived.WalkKit
import Derived.ProofKit
import Derived.OpenShut
import Derived.BigQuiet
import Derived.WalkSmall
import Derived.Deep.LoopGhost
import Derived.Deep.DeepCutAuto
namespace Go.Proofs.Ytahggokeelgjdaa
open Go.RowKit
set_option linter.unusedVariables false
set_option linter.unusedSimpArgs false

/-- A number's bytes, its lowest bits first. -/
def vb (x : Nat) : List Nat := if x < 128 then [x] else (x % 128 + 128) :: vb (x / 128)
termination_by x
/-- 0, -1, 1, -2, .. as 0, 1, 2, 3, .. -/
def zig (n : Int) : Nat := if 0 ≤ n then (2 * n).toNat else (-2 * n - 1).toNat
def u8s (xs : List Nat) : List Value := xs.map fun (x : Nat) => Value.int .u8 (x : Int)
theorem u8s_len (xs : List Nat) : (u8s xs).length = xs.length := by simp [u8s]
theorem u8s_app (xs ys : List Nat) : u8s (xs ++ ys) = u8s xs ++ u8s ys := by simp [u8s]
theorem u8s_one (xs : List Nat) : ∀ u ∈ u8s xs, u.oneCell' = true := by
  intro u hu
  obtain ⟨x, _, rfl⟩ := List.mem_map.1 hu
  rfl
theorem tyByte : TyOK 5 23 1 1 (.int .u8 0) := ⟨Try.underlying23, by kernel_rfl, rfl, by decide, by decide⟩
/-- A slice of bytes. -/
abbrev BY (b : Nat) (W : World) (v : Value) (xs : List Nat) : Prop := VZ 1 b W v xs.length (u8s xs)
/-- All but block b stands as it was. -/
def OB (b : Nat) (W w' : World) : Prop :=
  W.heap.size ≤ w'.heap.size ∧ (∀ i, i < W.heap.size → i ≠ b → w'.heap[i]? = W.heap[i]?) ∧ ∀ L, L ≤ b → L ≤ W.heap.size → Below L W w'
theorem OB.of_below {b : Nat} {W w' : World} (h : Below W.heap.size W w') : OB b W w' := ⟨h.size, fun i hi _ => h.block i hi, fun L _ hL => h.mono hL⟩
theorem OB.trans {b b' : Nat} {W w1 w2 : World} (h : OB b W w1) (k : OB b' w1 w2) (hb : b' = b ∨ W.heap.size ≤ b') : OB b W w2 := by
  obtain ⟨s1, o1, l1⟩ := h
  obtain ⟨s2, o2, l2⟩ := k
  refine ⟨Nat.le_trans s1 s2, fun i hi hb' => ?_, fun L hb' hL => (l1 L hb' hL).trans (l2 L ?_ (Nat.le_trans hL s1))⟩
  · rw [o2 i (Nat.lt_of_lt_of_le hi s1) (by rcases hb with rfl | h; exact hb'; omega), o1 i hi hb']
  · rcases hb with rfl | h; exact hb'; omega
/-- What is put behind bytes. -/
def APost (b : Nat) (W : World) (xs ys : List Nat) (e : Ending) (w' : World) : Prop :=
  ∃ b' v', e = .returned v' ∧ (b' = b ∨ W.heap.size ≤ b') ∧ BY b' w' v' (xs ++ ys) ∧ OB b W w' ∧ v' ≠ .slice none 0 0
theorem xor_zero (a : Nat) (ha : a < 18446744073709551616) : bits .xor .u64 (a : Int) 0 = a := by
  have h1 : (BitVec.ofInt 64 (a : Int)).toNat = a := by rw [BitVec.ofInt_natCast, BitVec.toNat_ofNat]; exact Nat.mod_eq_of_lt (by omega)
  show IntKind.u64.wrap ((BitVec.ofInt 64 (a : Int) ^^^ BitVec.ofInt 64 0).toNat : Int) = _
  have h2 : BitVec.ofInt 64 0 = 0#64 := rfl
  rw [h2, BitVec.xor_zero, h1, IntKind.wrap_u64]
  omega
theorem xor_ones (a : Nat) (ha : a < 18446744073709551616) : bits .xor .u64 (a : Int) 18446744073709551615 = ((18446744073709551615 - a : Nat) : Int) := by
  have h1 : (BitVec.ofInt 64 (a : Int)).toNat = a := by rw [BitVec.ofInt_natCast, BitVec.toNat_ofNat]; exact Nat.mod_eq_of_lt (by omega)
  show IntKind.u64.wrap ((BitVec.ofInt 64 (a : Int) ^^^ BitVec.ofInt 64 18446744073709551615).toNat : Int) = _
  have h2 : BitVec.ofInt 64 18446744073709551615 = BitVec.allOnes 64 := by decide
  rw [h2, BitVec.xor_allOnes, BitVec.toNat_not, h1, IntKind.wrap_u64]
  omega
theorem u64_and127 (x : Nat) (hx : x < 18446744073709551616) : bits .and .u64 (x : Int) 127 = ((x % 128 : Nat) : Int) := by
  have h1 : (BitVec.ofInt 64 (x : Int)).toNat = x := by rw [BitVec.ofInt_natCast, BitVec.toNat_ofNat]; exact Nat.mod_eq_of_lt (by omega)
  have h2 : (BitVec.ofInt 64 (127 : Int)).toNat = 2 ^ 7 - 1 := rfl
  show IntKind.u64.wrap ((BitVec.ofInt 64 (x : Int) &&& BitVec.ofInt 64 (127 : Int)).toNat : Int) = _
  rw [BitVec.toNat_and, h1, h2, Nat.and_two_pow_sub_one_eq_mod, IntKind.wrap_u64]
  omega
theorem u8_or128 (y : Nat) (hy : y < 128) : bits .or .u8 (y : Int) 128 = ((y + 128 : Nat) : Int) := by
  have h : ∀ y : Fin 128, bits .or .u8 ((y : Nat) : Int) 128 = ((y + 128 : Nat) : Int) := by decide +kernel
  exact h ⟨y, hy⟩
theorem zig_lt (n : Int) (h : -9223372036854775808 ≤ n ∧ n ≤ 9223372036854775807) : zig n < 18446744073709551616 := by
  unfold zig
  split <;> omega
/-- The byte that is put behind bytes. -/
theorem new1 (W : World) (y : Nat) (E : TypeId) : ∀ j u, (u8s [y])[j]? = some u → (W.alloc (.cells #[.int .u8 (y : Int)] E)).cell? ((⟨W.heap.size, 0, none⟩ : Addr).add j) = some u := by
  intro j u hu
  rw [addp]
  match j with
  | 0 => simp [u8s] at hu; subst hu; simp
  | j + 1 => simp [u8s] at hu
theorem ap_post {b : Nat} {W W' : World} {xs : List Nat} {y : Nat} {v' : Value} {w' : World} (hW : Below W.heap.size W W') (h : VPost 1 b W' (xs.length + 1) (u8s xs ++ u8s [y]) v' w') :
    ∃ b' A c, v' = .slice A (xs.length + 1) c ∧ (b' = b ∨ W.heap.size ≤ b') ∧ BY b' w' v' (xs ++ [y]) ∧ OB b W w' := by
  obtain ⟨b', hb', hv, hs, ho, hl⟩ := h
  have hv2 := hv
  obtain ⟨A, c, rfl, _⟩ := hv2
  refine ⟨b', A, c, rfl, ?_, ?_, (OB.of_below hW).trans ⟨hs, ho, hl⟩ (.inl rfl)⟩
  · rcases hb' with h | h
    · exact .inl h
    · have := hW.size; exact .inr (by omega)
  · show VZ 1 b' w' _ (xs ++ [y]).length _
    rw [u8s_app, List.length_append]
    exact hv
set_option maxHeartbeats 1600000 in
theorem appNum (b : Nat) (v : Value) (xs : List Nat) (n : Int) (W : World) (h : BY b W v xs) (hn : -9223372036854775808 ≤ n ∧ n ≤ 9223372036854775807) (hl : xs.length ≤ 4000000) :
    Calls Try.prog 21 #[v, .int .i64 n] W (APost b W xs (vb (zig n))) := by
  have HV := Lib.hid h
  obtain ⟨N0, hN0⟩ : ∃ N0, IntKind.u64.wrap n = N0 := ⟨_, rfl⟩
  obtain ⟨N1, hN1⟩ : ∃ N1, IntKind.u64.wrap (N0 * 2) = N1 := ⟨_, rfl⟩
  obtain ⟨s, hs⟩ : ∃ s, n / 9223372036854775808 = s := ⟨_, rfl⟩
  obtain ⟨S1, hS1⟩ : ∃ S1, IntKind.u64.wrap s = S1 := ⟨_, rfl⟩
  have hz : bits .xor .u64 N1 S1 = (zig n : Int) := by
    rw [IntKind.wrap_u64] at hN0 hN1 hS1
    by_cases h0 : 0 ≤ n
    · obtain rfl : S1 = 0 := by omega
      have e : N1 = ((2 * n).toNat : Int) := by omega
      rw [e, xor_zero _ (by omega), zig, if_pos h0]
    · obtain rfl : S1 = 18446744073709551615 := by omega
      have e : N1 = ((2 * n + 18446744073709551616).toNat : Int) := by omega
      rw [e, xor_ones _ (by omega), zig, if_neg h0]
      omega
  have hz9 := zig_lt n hn
  obtain ⟨z, hzz⟩ : ∃ z, zig n = z := ⟨_, rfl⟩
  rw [hzz] at hz hz9 ⊢
  clear h hzz
  go_enter Try.func21, Try.ntmps21
  go_wp2_with fail
  go_loopw [0, 5] (fun v0 v5 wr => ∃ (b' x : Nat) (ys : List Nat), v5 = .int .u64 x ∧ x < 18446744073709551616 ∧ Hid (ys.length ≤ 20 ∧ x * 128 ^ ys.length ≤ z) ∧ Hid (ys ++ vb x = vb z) ∧ Hid (BY b' wr v0 (xs ++ ys)) ∧ Hid (b' = b ∨ W.heap.size ≤ b') ∧ Hid (OB b W wr)) (fun _ v5 _ => (intOf v5).toNat)
  case atStart => exact ⟨b, z, [], rfl, hz9, Lib.hid ⟨by simp, by simp⟩, Lib.hid rfl, Lib.hid (by rw [List.append_nil]; exact HV.out), Lib.hid (.inl rfl), Lib.hid (OB.of_below (Below.refl _ _))⟩
  case round =>
    obtain ⟨b', x, ys, rfl, hx, HL, HY, HB, Hb, HO⟩ := hrel
    have hys : ys.length ≤ 20 := HL.out.1
    obtain ⟨A, c, rfl, _⟩ := HB.out
    obtain ⟨L, hL⟩ : ∃ L, (xs ++ ys).length = L := ⟨_, rfl⟩
    have hL9 : L ≤ 4000020 := by rw [← hL, List.length_append]; omega
    have hB9 := HB.out
    unfold BY at hB9
    rw [hL] at hB9 ⊢
    have HBL := Lib.hid hB9
    have HLL := Lib.hid hL
    clear hB9 hL
    by_cases hx7 : 127 < x
    · have i1 : (127 : Int) < x := by omega
      have f1 := u64_and127 x hx
      have hy : x % 128 < 128 := Nat.mod_lt _ (by decide)
      obtain ⟨y, hy9⟩ : ∃ y, x % 128 = y := ⟨_, rfl⟩
      rw [hy9] at f1 hy
      have f2 := u8_or128 y hy
      have f3 : IntKind.u8.wrap (y : Int) = y := by rw [IntKind.wrap_u8]; omega
      have HY9 := Lib.hid hy9
      clear hy9
      go_wp2_with (at_builtin; refine app_vz tyByte rfl _ _ rfl b' (.slice A L c) L (u8s (xs ++ ys)) rfl (HBL.out.below (alc0 _ _)) ⟨wr.heap.size, 0, none⟩ 1 1 (u8s [y + 128]) rfl rfl (new1 wr (y + 128) _) (u8s_one _) (.inl (by decide)) (by omega) ?_)
      rintro v' w' hp
      obtain ⟨b2, A2, c2, rfl, hb2, hv2, ho2⟩ := ap_post (xs := xs ++ ys) (y := y + 128) (b := b') (W := wr) (alc0 wr _) (by rw [HLL.out]; exact hp)
      have HV2 := Lib.hid hv2
      have HO2 : Hid (OB b W w') := Lib.hid (HO.out.trans ho2 Hb.out)
      have Hb2 : Hid (b2 = b ∨ W.heap.size ≤ b2) := Lib.hid (by have := HO.out.1; rcases hb2 with rfl | h; exact Hb.out; exact .inr (by omega))
      clear hp hv2 ho2 hb2 HBL
      go_wp2_with fail
      go_roundw
      case rel =>
        refine ⟨b2, x / 128, ys ++ [y + 128], ?_, by omega, Lib.hid ?_, Lib.hid ?_, Lib.hid ?_, Hb2, HO2⟩
        · go_num
        · have h := HL.out.2
          have h2 : x / 128 * 128 ≤ x := Nat.div_mul_le_self x 128
          have h3 : x / 128 * 128 ^ (ys.length + 1) ≤ z := by
            rw [Nat.pow_succ, Nat.mul_comm (128 ^ ys.length) 128, ← Nat.mul_assoc]
            exact Nat.le_trans (Nat.mul_le_mul_right _ h2) h
          rw [List.length_append]
          refine ⟨?_, by simpa using h3⟩
          show ys.length + 1 ≤ 20
          by_cases h6 : ys.length + 1 ≤ 20
          · exact h6
          · have h7 : 128 ^ 20 ≤ 128 ^ ys.length := Nat.pow_le_pow_right (by decide) (by omega)
            have h8 : 128 ^ ys.length ≤ x * 128 ^ ys.length := Nat.le_mul_of_pos_left _ (by omega)
            have h9 : (128 : Nat) ^ 20 = 1393796574908163946345982392040522594123776 := by decide
            omega
        · rw [List.append_assoc, ← HY.out]
          congr 1
          rw [vb.eq_1 x, if_neg (by omega), HY9.out]
          rfl
        · rw [← List.append_assoc]; exact HV2.out
      case measure => simp [intOf] <;> omega
    · have i1 : ¬ (127 : Int) < x := by omega
      have f3 : IntKind.u8.wrap (x : Int) = x := by rw [IntKind.wrap_u8]; omega
      go_wp2_with (at_builtin; refine app_vz tyByte rfl _ _ rfl b' (.slice A L c) L (u8s (xs ++ ys)) rfl (HBL.out.below (alc0 _ _)) ⟨wr.heap.size, 0, none⟩ 1 1 (u8s [x]) rfl rfl (new1 wr x _) (u8s_one _) (.inl (by decide)) (by omega) ?_)
      rintro v' w' hp
      obtain ⟨b2, A2, c2, rfl, hb2, hv2, ho2⟩ := ap_post (xs := xs ++ ys) (y := x) (b := b') (W := wr) (alc0 wr _) (by rw [HLL.out]; exact hp)
      have HV2 := Lib.hid hv2
      have HO2 : Hid (OB b W w') := Lib.hid (HO.out.trans ho2 Hb.out)
      have Hb2 : Hid (b2 = b ∨ W.heap.size ≤ b2) := Lib.hid (by have := HO.out.1; rcases hb2 with rfl | h; exact Hb.out; exact .inr (by omega))
      have HVB : Hid (vb z = ys ++ [x]) := Lib.hid (by rw [← HY.out, vb.eq_1 x, if_pos (by omega)])
      clear hp hv2 ho2 hb2 HBL
      go_wp2
      go_ret
      refine ⟨b2, _, rfl, Hb2.out, ?_, HO2.out, by simp⟩
      rw [HVB.out, ← List.append_assoc]
      exact HV2.out
/-- New bytes. -/
def NPost (W : World) (ys : List Nat) (e : Ending) (w' : World) : Prop :=
  ∃ b' v', e = .returned v' ∧ W.heap.size ≤ b' ∧ BY b' w' v' ys ∧ Below W.heap.size W w' ∧ v' ≠ .slice none 0 0
set_option maxHeartbeats 1600000 in
theorem refNum (n : Int) (W : World) (hn : -9223372036854775808 ≤ n ∧ n ≤ 9223372036854775807) :
    Calls Try.prog 22 #[.int .i64 n] W (NPost W (vb (zig n))) := by
  have hz9 := zig_lt n hn
  obtain ⟨z, hzz⟩ : ∃ z, zig n = z := ⟨_, rfl⟩
  have hz : (0 ≤ n ∧ (z : Int) = 2 * n) ∨ (n < 0 ∧ (z : Int) = -2 * n - 1) := by
    rw [← hzz]
    unfold zig
    split <;> omega
  rw [hzz] at hz9 ⊢
  have HZ := Lib.hid hz
  clear hzz
  go_enter Try.func22, Try.ntmps22
  rcases hz with ⟨h0, h1⟩ | ⟨h0, h1⟩
  · have h2 : ¬ n < 0 := by omega
    have h3 : IntKind.u64.wrap n = n := by rw [IntKind.wrap_u64]; omega
    have h4 : IntKind.u64.wrap (n * 2) = z := by rw [IntKind.wrap_u64]; omega
    clear h1
    go_wp2_with fail
    clear h2 h3 h4 h0
    go_loopw [3, 4] (fun v3 v4 wr => ∃ (b' x : Nat) (ys : List Nat), v3 = .int .u64 x ∧ x < 18446744073709551616 ∧ Hid (ys.length ≤ 20 ∧ x * 128 ^ ys.length ≤ z) ∧ Hid (ys ++ vb x = vb z) ∧ Hid (BY b' wr v4 ys) ∧ Hid (W.heap.size ≤ b') ∧ Hid (Below W.heap.size W wr) ∧ v4 ≠ .slice none 0 0) (fun v3 _ _ => (intOf v3).toNat)
    case atStart => exact ⟨W.heap.size, z, [], rfl, hz9, Lib.hid ⟨by simp, by simp⟩, Lib.hid rfl, Lib.hid (vz_made 1 W _), Lib.hid (Nat.le_refl _), Lib.hid (alc0 _ _), by simp⟩
    case round =>
      obtain ⟨b', x, ys, rfl, hx, HL, HY, HB, Hb, HO, hvn⟩ := hrel
      have hys : ys.length ≤ 20 := HL.out.1
      obtain ⟨A, c, rfl, _⟩ := HB.out
      by_cases hx7 : 128 ≤ x
      · have i1 : (128 : Int) ≤ x := by omega
        have hy : x % 128 < 128 := Nat.mod_lt _ (by decide)
        obtain ⟨y, hy9⟩ : ∃ y, x % 128 = y := ⟨_, rfl⟩
        have f0 : (x : Int).tmod 128 = y := by rw [Int.tmod_eq_emod_of_nonneg (by omega), ← hy9]; omega
        have f0' : (x : Int) % 128 = y := by omega
        have f1 : IntKind.u64.wrap ((y : Int) + 128) = ((y + 128 : Nat) : Int) := by rw [IntKind.wrap_u64]; omega
        have f3 : IntKind.u8.wrap ((y + 128 : Nat) : Int) = ((y + 128 : Nat) : Int) := by rw [IntKind.wrap_u8]; omega
        have f4 : (x : Int).tdiv 128 = ((x / 128 : Nat) : Int) := by rw [Int.tdiv_eq_ediv_of_nonneg (by omega)]; omega
        rw [hy9] at hy
        have HY9 := Lib.hid hy9
        clear hy9
        go_wp2_with (at_builtin; refine app_vz tyByte rfl _ _ rfl b' (.slice A ys.length c) ys.length (u8s ys) rfl (HB.out.below (alc0 _ _)) ⟨wr.heap.size, 0, none⟩ 1 1 (u8s [y + 128]) rfl rfl (new1 wr (y + 128) _) (u8s_one _) (.inl (by decide)) (by omega) ?_)
        rintro v' w' hp
        obtain ⟨b2, A2, c2, rfl, hb2, hv2, ho2⟩ := ap_post (xs := ys) (y := y + 128) (b := b') (W := wr) (alc0 wr _) hp
        have HV2 := Lib.hid hv2
        have HO2 : Hid (Below W.heap.size W w') := Lib.hid (HO.out.trans (ho2.2.2 W.heap.size Hb.out HO.out.size))
        have Hb2 : Hid (W.heap.size ≤ b2) := Lib.hid (by have := HO.out.size; have := Hb.out; rcases hb2 with rfl | h <;> omega)
        clear hp hv2 ho2 hb2 hvn
        go_wp2_with fail
        go_roundw
        case rel =>
          refine ⟨b2, x / 128, ys ++ [y + 128], ?_, by omega, Lib.hid ?_, Lib.hid ?_, HV2, Hb2, HO2, by simp⟩
          · first | rfl | go_num
          · have h := HL.out.2
            have h2 : x / 128 * 128 ≤ x := Nat.div_mul_le_self x 128
            have h3 : x / 128 * 128 ^ (ys.length + 1) ≤ z := by
              rw [Nat.pow_succ, Nat.mul_comm (128 ^ ys.length) 128, ← Nat.mul_assoc]
              exact Nat.le_trans (Nat.mul_le_mul_right _ h2) h
            rw [List.length_append]
            refine ⟨?_, by simpa using h3⟩
            show ys.length + 1 ≤ 20
            by_cases h6 : ys.length + 1 ≤ 20
            · exact h6
            · have h7 : 128 ^ 20 ≤ 128 ^ ys.length := Nat.pow_le_pow_right (by decide) (by omega)
              have h8 : 128 ^ ys.length ≤ x * 128 ^ ys.length := Nat.le_mul_of_pos_left _ (by omega)
              have h9 : (128 : Nat) ^ 20 = 1393796574908163946345982392040522594123776 := by decide
              omega
          · rw [List.append_assoc, ← HY.out]
            congr 1
            rw [vb.eq_1 x, if_neg (by omega), HY9.out]
            rfl
        case measure => simp [intOf] <;> omega
      · have i1 : ¬ (128 : Int) ≤ x := by omega
        have f3 : IntKind.u8.wrap (x : Int) = x := by rw [IntKind.wrap_u8]; omega
        go_wp2_with (at_builtin; refine app_vz tyByte rfl _ _ rfl b' (.slice A ys.length c) ys.length (u8s ys) rfl (HB.out.below (alc0 _ _)) ⟨wr.heap.size, 0, none⟩ 1 1 (u8s [x]) rfl rfl (new1 wr x _) (u8s_one _) (.inl (by decide)) (by omega) ?_)
        rintro v' w' hp
        obtain ⟨b2, A2, c2, rfl, hb2, hv2, ho2⟩ := ap_post (xs := ys) (y := x) (b := b') (W := wr) (alc0 wr _) hp
        have HV2 := Lib.hid hv2
        have HO2 : Hid (Below W.heap.size W w') := Lib.hid (HO.out.trans (ho2.2.2 W.heap.size Hb.out HO.out.size))
        have Hb2 : Hid (W.heap.size ≤ b2) := Lib.hid (by have := HO.out.size; have := Hb.out; rcases hb2 with rfl | h <;> omega)
        have HVB : Hid (vb z = ys ++ [x]) := Lib.hid (by rw [← HY.out, vb.eq_1 x, if_pos (by omega)])
        clear hp hv2 ho2 hb2 hvn
        go_wp2
        go_ret
        refine ⟨b2, _, rfl, Hb2.out, ?_, HO2.out, by simp⟩
        rw [HVB.out]
        exact HV2.out
  · have h3 : IntKind.i64.wrap (n + 1) = n + 1 := by rw [IntKind.wrap_i64]; omega
    have h4 : IntKind.i64.wrap (-(n + 1)) = -(n + 1) := by rw [IntKind.wrap_i64]; omega
    have h5 : IntKind.u64.wrap (-(n + 1)) = -(n + 1) := by rw [IntKind.wrap_u64]; omega
    have h6 : IntKind.u64.wrap (-(n + 1) * 2) = -(n + 1) * 2 := by rw [IntKind.wrap_u64]; omega
    have h7 : IntKind.u64.wrap (-(n + 1) * 2 + 1) = z := by rw [IntKind.wrap_u64]; omega
    clear h1
    go_wp2_with fail
    clear h3 h4 h5 h6 h7 h0
    go_loopw [3, 4] (fun v3 v4 wr => ∃ (b' x : Nat) (ys : List Nat), v3 = .int .u64 x ∧ x < 18446744073709551616 ∧ Hid (ys.length ≤ 20 ∧ x * 128 ^ ys.length ≤ z) ∧ Hid (ys ++ vb x = vb z) ∧ Hid (BY b' wr v4 ys) ∧ Hid (W.heap.size ≤ b') ∧ Hid (Below W.heap.size W wr) ∧ v4 ≠ .slice none 0 0) (fun v3 _ _ => (intOf v3).toNat)
    case atStart => exact ⟨W.heap.size, z, [], rfl, hz9, Lib.hid ⟨by simp, by simp⟩, Lib.hid rfl, Lib.hid (vz_made 1 W _), Lib.hid (Nat.le_refl _), Lib.hid (alc0 _ _), by simp⟩
    case round =>
      obtain ⟨b', x, ys, rfl, hx, HL, HY, HB, Hb, HO, hvn⟩ := hrel
      have hys : ys.length ≤ 20 := HL.out.1
      obtain ⟨A, c, rfl, _⟩ := HB.out
      by_cases hx7 : 128 ≤ x
      · have i1 : (128 : Int) ≤ x := by omega
        have hy : x % 128 < 128 := Nat.mod_lt _ (by decide)
        obtain ⟨y, hy9⟩ : ∃ y, x % 128 = y := ⟨_, rfl⟩
        have f0 : (x : Int).tmod 128 = y := by rw [Int.tmod_eq_emod_of_nonneg (by omega), ← hy9]; omega
        have f0' : (x : Int) % 128 = y := by omega
        have f1 : IntKind.u64.wrap ((y : Int) + 128) = ((y + 128 : Nat) : Int) := by rw [IntKind.wrap_u64]; omega
        have f3 : IntKind.u8.wrap ((y + 128 : Nat) : Int) = ((y + 128 : Nat) : Int) := by rw [IntKind.wrap_u8]; omega
        have f4 : (x : Int).tdiv 128 = ((x / 128 : Nat) : Int) := by rw [Int.tdiv_eq_ediv_of_nonneg (by omega)]; omega
        rw [hy9] at hy
        have HY9 := Lib.hid hy9
        clear hy9
        go_wp2_with (at_builtin; refine app_vz tyByte rfl _ _ rfl b' (.slice A ys.length c) ys.length (u8s ys) rfl (HB.out.below (alc0 _ _)) ⟨wr.heap.size, 0, none⟩ 1 1 (u8s [y + 128]) rfl rfl (new1 wr (y + 128) _) (u8s_one _) (.inl (by decide)) (by omega) ?_)
        rintro v' w' hp
        obtain ⟨b2, A2, c2, rfl, hb2, hv2, ho2⟩ := ap_post (xs := ys) (y := y + 128) (b := b') (W := wr) (alc0 wr _) hp
        have HV2 := Lib.hid hv2
        have HO2 : Hid (Below W.heap.size W w') := Lib.hid (HO.out.trans (ho2.2.2 W.heap.size Hb.out HO.out.size))
        have Hb2 : Hid (W.heap.size ≤ b2) := Lib.hid (by have := HO.out.size; have := Hb.out; rcases hb2 with rfl | h <;> omega)
        clear hp hv2 ho2 hb2 hvn
        go_wp2_with fail
        go_roundw
        case rel =>
          refine ⟨b2, x / 128, ys ++ [y + 128], ?_, by omega, Lib.hid ?_, Lib.hid ?_, HV2, Hb2, HO2, by simp⟩
          · first | rfl | go_num
          · have h := HL.out.2
            have h2 : x / 128 * 128 ≤ x := Nat.div_mul_le_self x 128
            have h3 : x / 128 * 128 ^ (ys.length + 1) ≤ z := by
              rw [Nat.pow_succ, Nat.mul_comm (128 ^ ys.length) 128, ← Nat.mul_assoc]
              exact Nat.le_trans (Nat.mul_le_mul_right _ h2) h
            rw [List.length_append]
            refine ⟨?_, by simpa using h3⟩
            show ys.length + 1 ≤ 20
            by_cases h6 : ys.length + 1 ≤ 20
            · exact h6
            · have h7 : 128 ^ 20 ≤ 128 ^ ys.length := Nat.pow_le_pow_right (by decide) (by omega)
              have h8 : 128 ^ ys.length ≤ x * 128 ^ ys.length := Nat.le_mul_of_pos_left _ (by omega)
              have h9 : (128 : Nat) ^ 20 = 1393796574908163946345982392040522594123776 := by decide
              omega
          · rw [List.append_assoc, ← HY.out]
            congr 1
            rw [vb.eq_1 x, if_neg (by omega), HY9.out]
            rfl
        case measure => simp [intOf] <;> omega
      · have i1 : ¬ (128 : Int) ≤ x := by omega
        have f3 : IntKind.u8.wrap (x : Int) = x := by rw [IntKind.wrap_u8]; omega
        go_wp2_with (at_builtin; refine app_vz tyByte rfl _ _ rfl b' (.slice A ys.length c) ys.length (u8s ys) rfl (HB.out.below (alc0 _ _)) ⟨wr.heap.size, 0, none⟩ 1 1 (u8s [x]) rfl rfl (new1 wr x _) (u8s_one _) (.inl (by decide)) (by omega) ?_)
        rintro v' w' hp
        obtain ⟨b2, A2, c2, rfl, hb2, hv2, ho2⟩ := ap_post (xs := ys) (y := x) (b := b') (W := wr) (alc0 wr _) hp
        have HV2 := Lib.hid hv2
        have HO2 : Hid (Below W.heap.size W w') := Lib.hid (HO.out.trans (ho2.2.2 W.heap.size Hb.out HO.out.size))
        have Hb2 : Hid (W.heap.size ≤ b2) := Lib.hid (by have := HO.out.size; have := Hb.out; rcases hb2 with rfl | h <;> omega)
        have HVB : Hid (vb z = ys ++ [x]) := Lib.hid (by rw [← HY.out, vb.eq_1 x, if_pos (by omega)])
        clear hp hv2 ho2 hb2 hvn
        go_wp2
        go_ret
        refine ⟨b2, _, rfl, Hb2.out, ?_, HO2.out, by simp⟩
        rw [HVB.out]
        exact HV2.out
end Go.Proofs.Ytahggokeelgjdaa
