/- The statement's own take: the number that bytes begin with, as short as may be. -/
import Derived.Test.YtahggokeelgjdaaTrP
namespace Go.Proofs.Ytahggokeelgjdaa
open Go.RowKit
set_option linter.unusedVariables false
set_option linter.unusedSimpArgs false

/-- What bytes tell, seven bits each. -/
def pv : List Nat → Nat
  | [] => 0
  | c :: t => c % 128 + 128 * pv t
theorem pv_snoc : ∀ (ds : List Nat) (b : Nat), pv (ds ++ [b]) = pv ds + b % 128 * 2 ^ (7 * ds.length)
  | [], b => by simp [pv]
  | c :: t, b => by
    have e : 2 ^ (7 * (c :: t).length) = 128 * 2 ^ (7 * t.length) := by rw [List.length_cons, show 7 * (t.length + 1) = 7 + 7 * t.length by omega, Nat.pow_add]
    rw [List.cons_append, pv, pv, pv_snoc t b, e, Nat.mul_add, Nat.add_assoc, ← Nat.mul_assoc, ← Nat.mul_assoc, Nat.mul_comm 128 (b % 128)]
theorem pv_lt : ∀ (ds : List Nat), pv ds < 2 ^ (7 * ds.length)
  | [] => by simp [pv]
  | c :: t => by
    have h := pv_lt t
    have e : 2 ^ (7 * (c :: t).length) = 128 * 2 ^ (7 * t.length) := by rw [List.length_cons, show 7 * (t.length + 1) = 7 + 7 * t.length by omega, Nat.pow_add]
    have hc : c % 128 < 128 := Nat.mod_lt _ (by decide)
    rw [pv, e]
    omega
theorem vb_all (z : Nat) : ∃ ds b, vb z = ds ++ [b] ∧ (∀ x ∈ ds, 128 ≤ x) ∧ b < 128 ∧ pv (vb z) = z := by
  induction z using Nat.strongRecOn with
  | _ z ih =>
    by_cases h : z < 128
    · exact ⟨[], z, by rw [vb_s z h]; rfl, by simp, h, by rw [vb_s z h]; simp [pv]; omega⟩
    · obtain ⟨ds, b, h1, h2, h3, h4⟩ := ih (z / 128) (by omega)
      have e : vb z = (z % 128 + 128) :: vb (z / 128) := by rw [vb.eq_1 z, if_neg h]
      refine ⟨(z % 128 + 128) :: ds, b, by rw [e, h1]; rfl, fun x hx => ?_, h3, ?_⟩
      · rcases List.mem_cons.1 hx with rfl | hx
        · omega
        · exact h2 x hx
      · rw [e, pv, h4]
        omega
theorem vb_pv : ∀ (ds : List Nat) (b : Nat), (∀ x ∈ ds, 128 ≤ x ∧ x < 256) → b < 128 → (vb (pv (ds ++ [b]))).length = ds.length + 1 → vb (pv (ds ++ [b])) = ds ++ [b]
  | [], b, _, hb, _ => by
    have e : pv ([] ++ [b]) = b := by simp [pv]; omega
    rw [e, vb_s b hb]
    rfl
  | c :: t, b, h, hb, hl => by
    have hc := h c (by simp)
    have hm : c % 128 < 128 := Nat.mod_lt _ (by decide)
    have e : pv (c :: t ++ [b]) = c % 128 + 128 * pv (t ++ [b]) := rfl
    obtain ⟨P, hP⟩ : ∃ P, pv (t ++ [b]) = P := ⟨_, rfl⟩
    rw [e, hP] at hl ⊢
    by_cases h0 : P = 0
    · rw [h0, vb_s _ (by omega)] at hl
      simp at hl
    · rw [vb.eq_1, if_neg (by omega), show (c % 128 + 128 * P) % 128 = c % 128 by omega, show (c % 128 + 128 * P) / 128 = P by omega] at hl ⊢
      have ih := vb_pv t b (fun x hx => h x (by simp [hx])) hb (by rw [hP]; simpa using hl)
      rw [hP] at ih
      rw [ih, show c % 128 + 128 = c by omega]
      rfl
theorem vb_prefix {xs rest : List Nat} {z k b : Nat} (h : xs = vb z ++ rest) (hk : ∀ x ∈ xs.take k, 128 ≤ x) (hb : xs[k]? = some b) (hb2 : b < 128) : vb z = xs.take (k + 1) := by
  obtain ⟨ds, c, h1, h2, h3, _⟩ := vb_all z
  rw [h1, List.append_assoc] at h
  have hc : xs[ds.length]? = some c := by rw [h, List.getElem?_append_right (Nat.le_refl _), Nat.sub_self]; rfl
  have hge : ¬ ds.length < k := fun hlt => by
    have : c ∈ xs.take k := List.mem_of_getElem? (i := ds.length) (by rw [List.getElem?_take, if_pos hlt]; exact hc)
    have := hk c this
    omega
  have hle : ¬ k < ds.length := fun hlt => by
    have h5 : xs[k]? = ds[k]? := by rw [h, List.getElem?_append_left hlt]
    rw [hb] at h5
    have := h2 b (List.mem_of_getElem? h5.symm)
    omega
  obtain rfl : ds.length = k := by omega
  rw [h1, h, ← List.append_assoc, List.take_append_of_le_length (by simp)]
  rw [List.take_of_length_le (by simp)]
theorem vb_long {xs rest : List Nat} {z k : Nat} (h : xs = vb z ++ rest) (hz : z < 18446744073709551616) (hk : ∀ x ∈ xs.take k, 128 ≤ x) (hl : k = xs.length ∨ 10 ≤ k) : False := by
  have h10 := vb_len z hz
  obtain ⟨ds, c, h1, h2, h3, _⟩ := vb_all z
  rw [h1] at h10
  rw [h1, List.append_assoc] at h
  have hc : xs[ds.length]? = some c := by rw [h, List.getElem?_append_right (Nat.le_refl _), Nat.sub_self]; rfl
  have hlt : ds.length < xs.length := (List.getElem?_eq_some_iff.1 hc).1
  simp at h10
  have hdk : ds.length < k := by omega
  have : c ∈ xs.take k := List.mem_of_getElem? (i := ds.length) (by rw [List.getElem?_take, if_pos hdk]; exact hc)
  have := hk c this
  omega
theorem vb_ten {xs rest : List Nat} {z b : Nat} (h : xs = vb z ++ rest) (hz : z < 18446744073709551616) (hk : ∀ x ∈ xs.take 9, 128 ≤ x) (hb : xs[9]? = some b) (hb2 : 1 < b) (hb3 : b < 256) : False := by
  have h10 := vb_len z hz
  obtain ⟨ds, c, h1, h2, h3, h4⟩ := vb_all z
  rw [h1] at h10 h4
  rw [h1, List.append_assoc] at h
  have hc : xs[ds.length]? = some c := by rw [h, List.getElem?_append_right (Nat.le_refl _), Nat.sub_self]; rfl
  simp at h10
  have hge : ¬ ds.length < 9 := fun hlt => by
    have : c ∈ xs.take 9 := List.mem_of_getElem? (i := ds.length) (by rw [List.getElem?_take, if_pos hlt]; exact hc)
    have := hk c this
    omega
  have hd9 : ds.length = 9 := by omega
  rw [hd9, hb] at hc
  have hbc := Option.some.inj hc
  rw [pv_snoc, hd9] at h4
  have e : (2 : Nat) ^ (7 * 9) = 9223372036854775808 := by decide
  rw [e] at h4
  omega
def TK (W : World) (xs : List Nat) (e : Ending) (w' : World) : Prop :=
  ((∃ n rest, xs = vb (zig n) ++ rest ∧ (-9223372036854775808 ≤ n ∧ n ≤ 9223372036854775807) ∧ e = .returned (.tuple #[.int .i64 n, .int .i64 ((vb (zig n)).length : Nat)])) ∨
    (e = .returned (.tuple #[.int .i64 0, .int .i64 0]) ∧ ∀ n rest, (-9223372036854775808 ≤ n ∧ n ≤ 9223372036854775807) → ¬ xs = vb (zig n) ++ rest)) ∧ Below W.heap.size W w'
set_option maxRecDepth 100000 in
set_option maxHeartbeats 3200000 in
theorem refTake (v : Value) (xs : List Nat) (W : World) (h : RD W v xs) (hx : ∀ x ∈ xs, x < 256) : Calls Try.prog 27 #[v] W (TK W xs) := by
  have HD := Lib.hid h
  have HX := Lib.hid hx
  obtain ⟨A, c, rfl, hl47, -⟩ := h
  clear hx
  obtain ⟨n, hn⟩ : ∃ n, xs.length = n := ⟨_, rfl⟩
  have HN := Lib.hid hn
  have hn9 : n ≤ 140737488351232 := by omega
  rw [hn]
  clear hn hl47
  go_enter Try.func27, Try.ntmps27
  go_wp2_with fail
  go_loopw [4, 5] (fun v4 v5 wr => ∃ (k u : Nat), k ≤ n ∧ k ≤ 10 ∧ v5 = .int .i64 k ∧ v4 = .int .u64 u ∧ Hid (u = pv (xs.take k)) ∧ Hid (∀ x ∈ xs.take k, 128 ≤ x) ∧ W = wr) (fun _ v5 _ => 10 - (intOf v5).toNat)
  case atStart => exact ⟨0, 0, by omega, by omega, rfl, rfl, Lib.hid rfl, Lib.hid (by simp), rfl⟩
  case round =>
    obtain ⟨k, u, hk, hk10, rfl, rfl, HU, HK, rfl⟩ := hrel
    by_cases hc : k < n ∧ k < 10
    · obtain ⟨hkn, hk1⟩ := hc
      obtain ⟨x, hxk⟩ : ∃ x, xs[k]? = some x := ⟨_, List.getElem?_eq_getElem (by rw [HN.out]; exact hkn)⟩
      have hx256 := HX.out x (List.mem_of_getElem? hxk)
      have HXK := Lib.hid hxk
      obtain ⟨A', c', e', _, hnil | ⟨bd, off, hA, hbd, hat⟩⟩ := HD.out
      · rw [hnil] at hxk; simp at hxk
      injection e' with e1 e2 e3
      rw [hA] at e1
      subst e1
      have r0 : W.cell? ⟨bd, off + k, none⟩ = some (.int .u8 (x : Int)) := hat k _ (by simp [u8s, hxk])
      have i1 : (k : Int) < n := by omega
      have i2 : (k : Int) < 10 := by omega
      have hlk : (xs.take k).length = k := by rw [List.length_take, HN.out]; omega
      have hsn : xs.take (k + 1) = xs.take k ++ [x] := by rw [List.take_add_one, hxk]; rfl
      have hpvl := pv_lt (xs.take k)
      rw [hlk, ← HU.out] at hpvl
      have HPV := Lib.hid hpvl
      have HLK := Lib.hid hlk
      have HSN := Lib.hid hsn
      have f0 : (x : Int).tmod 128 = ((x % 128 : Nat) : Int) := by rw [Int.tmod_eq_emod_of_nonneg (by omega)]; omega
      have f0' : (x : Int) % 128 = ((x % 128 : Nat) : Int) := by omega
      have hxm : x % 128 < 128 := Nat.mod_lt _ (by decide)
      clear e2 e3 hA hat hxk hsn hlk hpvl
      by_cases hten : k = 9 ∧ 1 < x
      · obtain ⟨rfl, hx1⟩ := hten
        have i3 : (1 : Int) < x := by omega
        have f2 : IntKind.u64.wrap (((x % 128 : Nat)) : Int) = ((x % 128 : Nat) : Int) := by rw [IntKind.wrap_u64]; omega
        have HX1 := Lib.hid hx1
        have HX2 := Lib.hid hx256
        obtain ⟨Bm, hBm⟩ : ∃ Bm, x % 128 = Bm := ⟨_, rfl⟩
        rw [hBm] at f0 f0' f2
        clear hBm hxm
        go_wp2
        refine bodyPost_ret (v := .tuple #[.int .i64 0, .int .i64 0]) (by simp [results, Try.results27, go_sem]) rfl ⟨.inr ⟨rfl, fun n rest hr h => vb_ten h (zig_lt n hr) HK.out HXK.out HX1.out HX2.out⟩, Below.refl _ _⟩
      · have hXu : u + x % 128 * 2 ^ (7 * k) < 18446744073709551616 ∧ x % 128 * 2 ^ (7 * k) < 18446744073709551616 := by
          have hu := HPV.out
          have hkk : k = 0 ∨ k = 1 ∨ k = 2 ∨ k = 3 ∨ k = 4 ∨ k = 5 ∨ k = 6 ∨ k = 7 ∨ k = 8 ∨ k = 9 := by omega
          rcases hkk with rfl | rfl | rfl | rfl | rfl | rfl | rfl | rfl | rfl | rfl <;> simp at hu ⊢ <;> omega
        obtain ⟨V, hV⟩ : ∃ V, x % 128 * 2 ^ (7 * k) = V := ⟨_, rfl⟩
        rw [hV] at hXu
        have f4 := wrap_shl (x % 128) (7 * k)
        rw [hV, Nat.mod_eq_of_lt hXu.2] at f4
        have f2 : IntKind.u64.wrap (((x % 128 : Nat)) : Int) = ((x % 128 : Nat) : Int) := by rw [IntKind.wrap_u64]; omega
        have f3 : IntKind.i64.wrap (7 * (k : Int)) = ((7 * k : Nat) : Int) := by rw [IntKind.wrap_i64]; omega
        have f3' : IntKind.u64.wrap ((7 * k : Nat) : Int) = ((7 * k : Nat) : Int) := by rw [IntKind.wrap_u64]; omega
        obtain ⟨X, hX⟩ : ∃ X, u + V = X := ⟨_, rfl⟩
        have f5 : IntKind.u64.wrap ((u : Int) + (V : Int)) = (X : Int) := by rw [IntKind.wrap_u64]; omega
        have hX64 : X < 18446744073709551616 := by omega
        have HXP : Hid (X = pv (xs.take (k + 1))) := Lib.hid (by rw [HSN.out, pv_snoc, HLK.out, hV, ← HU.out, hX])
        have hi7 : 7 * k ≤ 63 := by omega
        have hwk : IntKind.i64.wrap ((k : Int) + 1) = (k : Int) + 1 := by rw [IntKind.wrap_i64]; omega
        have hwk0 : IntKind.i64.wrap (k : Int) = (k : Int) := by rw [IntKind.wrap_i64]; omega
        have hwk1 : (k : Int) + 1 - 1 = (k : Int) := by omega
        obtain ⟨Bm, hBm⟩ : ∃ Bm, x % 128 = Bm := ⟨_, rfl⟩
        obtain ⟨m7, hm7⟩ : ∃ m7, 7 * k = m7 := ⟨_, rfl⟩
        rw [hBm] at f0 f0' f2 f4
        rw [hm7] at f3 f3' f4 hi7
        have HXX := Lib.hid hx256
        have HX64 := Lib.hid hX64
        obtain ⟨H, e, hH, he, hH9⟩ : ∃ H e : Nat, X = 2 * H + e ∧ (e = 0 ∨ e = 1) ∧ H < 9223372036854775808 := ⟨X / 2, X % 2, by omega, by omega, by omega⟩
        have k1 : (X : Int).tdiv 2 = (H : Int) := by rw [Int.tdiv_eq_ediv_of_nonneg (by omega)]; omega
        have k1' : (X : Int) / 2 = (H : Int) := by omega
        have k2 : IntKind.i64.wrap (H : Int) = (H : Int) := by rw [IntKind.wrap_i64]; omega
        have k3 : (X : Int).tmod 2 = (e : Int) := by rw [Int.tmod_eq_emod_of_nonneg (by omega)]; omega
        have k3' : (X : Int) % 2 = (e : Int) := by omega
        have k4 : IntKind.i64.wrap (-(H : Int)) = -(H : Int) := by rw [IntKind.wrap_i64]; omega
        have k5 : IntKind.i64.wrap (-(H : Int) - 1) = -(H : Int) - 1 := by rw [IntKind.wrap_i64]; omega
        have HH := Lib.hid hH
        have HM : Hid (x < 128 → (vb X).length = k + 1 → xs = vb X ++ xs.drop (k + 1)) := Lib.hid (fun h8 hl => by
          have h1 : vb X = xs.take k ++ [x] := by
            rw [HXP.out, HSN.out]
            refine vb_pv (xs.take k) x (fun y hy => ⟨HK.out y hy, HX.out y (List.mem_of_mem_take hy)⟩) h8 ?_
            rw [← HSN.out, ← HXP.out, hl, HLK.out]
          rw [h1, ← HSN.out, List.take_append_drop])
        have HNo : Hid (x < 128 → ¬ (vb X).length = k + 1 → ∀ n rest, (-9223372036854775808 ≤ n ∧ n ≤ 9223372036854775807) → ¬ xs = vb (zig n) ++ rest) := Lib.hid (fun h8 hl n rest hr h => by
          have h1 := vb_prefix h HK.out HXK.out h8
          have h2 : pv (vb (zig n)) = zig n := by obtain ⟨_, _, _, _, _, h⟩ := vb_all (zig n); exact h
          rw [h1, ← HXP.out] at h2
          apply hl
          rw [h2, h1, HSN.out, List.length_append, HLK.out]
          rfl)
        have HK1 : Hid (k < 10) := Lib.hid hk1
        have HKs : Hid (¬ x < 128 → ∀ y ∈ xs.take (k + 1), 128 ≤ y) := Lib.hid (fun h8 y hy => by
          rw [HSN.out] at hy
          rcases List.mem_append.1 hy with h | h
          · exact HK.out y h
          · simp at h; omega)
        clear hV hX hXu hBm hm7 hxm hx256 hX64 hH
        rcases (show (k = 9 ∧ ¬ 1 < x) ∨ (¬ k = 9) by omega) with ⟨h9, hx1⟩ | h9
        · have i3 : ¬ (1 : Int) < x := by omega
          have i3' : ((k : Int) == 9) = true := beq_iff_eq.2 (by omega)
          have hk9 := Lib.hid h9
          clear hx1 h9
          by_cases h8 : x < 128
          · have i8 : (x : Int) < 128 := by omega
            rcases he with rfl | rfl
            · skip
              go_wp2_with fail
              refine (refNum (H : Int) W (by omega)).mono ?_
              rintro e w2 ⟨bn, vn, rfl, hbn, hvn, hb2, _⟩
              have hz : zig (H : Int) = X := by
                have := HH.out
                unfold zig
                split <;> omega
              rw [hz] at hvn
              have HZg := Lib.hid hz
              have HB2 := Lib.hid hb2
              obtain ⟨An, cn, rfl, -⟩ := hvn
              obtain ⟨L, hL⟩ : ∃ L, (vb X).length = L := ⟨_, rfl⟩
              have HLL := Lib.hid hL
              rw [hL]
              clear hbn hb2 hz hL
              by_cases hle : L = k + 1
              · subst hle
                have c1 : ((k + 1 : Nat) : Int) = (k : Int) + 1 := by omega
                have HM2 := Lib.hid (HM.out h8 HLL.out)
                clear HM
                go_wp2
                refine bodyPost_ret (v := .tuple #[.int .i64 ((H : Int)), .int .i64 ((k + 1 : Nat) : Int)]) (by simp [results, Try.results27, go_sem]) rfl ⟨.inl ⟨(H : Int), _, by rw [HZg.out]; exact HM2.out, by omega, by rw [HZg.out, HLL.out]⟩, HB2.out⟩
              · have c1 : ¬ (L : Int) = (k : Int) + 1 := by omega
                have HNo2 := Lib.hid (HNo.out h8 (by rw [HLL.out]; exact hle))
                clear HNo
                go_wp2
                refine bodyPost_ret (v := .tuple #[.int .i64 0, .int .i64 0]) (by simp [results, Try.results27, go_sem]) rfl ⟨.inr ⟨rfl, HNo2.out⟩, HB2.out⟩
            · skip
              go_wp2_with fail
              refine (refNum (-(H : Int) - 1) W (by omega)).mono ?_
              rintro e w2 ⟨bn, vn, rfl, hbn, hvn, hb2, _⟩
              have hz : zig (-(H : Int) - 1) = X := by
                have := HH.out
                unfold zig
                split <;> omega
              rw [hz] at hvn
              have HZg := Lib.hid hz
              have HB2 := Lib.hid hb2
              obtain ⟨An, cn, rfl, -⟩ := hvn
              obtain ⟨L, hL⟩ : ∃ L, (vb X).length = L := ⟨_, rfl⟩
              have HLL := Lib.hid hL
              rw [hL]
              clear hbn hb2 hz hL
              by_cases hle : L = k + 1
              · subst hle
                have c1 : ((k + 1 : Nat) : Int) = (k : Int) + 1 := by omega
                have HM2 := Lib.hid (HM.out h8 HLL.out)
                clear HM
                go_wp2
                refine bodyPost_ret (v := .tuple #[.int .i64 ((-(H : Int) - 1)), .int .i64 ((k + 1 : Nat) : Int)]) (by simp [results, Try.results27, go_sem]) rfl ⟨.inl ⟨(-(H : Int) - 1), _, by rw [HZg.out]; exact HM2.out, by omega, by rw [HZg.out, HLL.out]⟩, HB2.out⟩
              · have c1 : ¬ (L : Int) = (k : Int) + 1 := by omega
                have HNo2 := Lib.hid (HNo.out h8 (by rw [HLL.out]; exact hle))
                clear HNo
                go_wp2
                refine bodyPost_ret (v := .tuple #[.int .i64 0, .int .i64 0]) (by simp [results, Try.results27, go_sem]) rfl ⟨.inr ⟨rfl, HNo2.out⟩, HB2.out⟩
          · have i8 : ¬ (x : Int) < 128 := by omega
            go_wp2_with fail
            go_roundw
            case rel => exact ⟨k + 1, X, by omega, by have := HK1.out; omega, by first | go_num | trivial | rfl, by first | rfl | trivial, by first | exact HXP | trivial, Lib.hid (HKs.out h8), by first | rfl | trivial⟩
            case measure => (have := HK1.out; simp [intOf] <;> omega)
        · have i3 : ¬ (k : Int) = 9 := by omega
          have i3' : ((k : Int) == 9) = false := beq_eq_false_iff_ne.2 i3
          clear h9
          by_cases h8 : x < 128
          · have i8 : (x : Int) < 128 := by omega
            rcases he with rfl | rfl
            · skip
              go_wp2_with fail
              refine (refNum (H : Int) W (by omega)).mono ?_
              rintro e w2 ⟨bn, vn, rfl, hbn, hvn, hb2, _⟩
              have hz : zig (H : Int) = X := by
                have := HH.out
                unfold zig
                split <;> omega
              rw [hz] at hvn
              have HZg := Lib.hid hz
              have HB2 := Lib.hid hb2
              obtain ⟨An, cn, rfl, -⟩ := hvn
              obtain ⟨L, hL⟩ : ∃ L, (vb X).length = L := ⟨_, rfl⟩
              have HLL := Lib.hid hL
              rw [hL]
              clear hbn hb2 hz hL
              by_cases hle : L = k + 1
              · subst hle
                have c1 : ((k + 1 : Nat) : Int) = (k : Int) + 1 := by omega
                have HM2 := Lib.hid (HM.out h8 HLL.out)
                clear HM
                go_wp2
                refine bodyPost_ret (v := .tuple #[.int .i64 ((H : Int)), .int .i64 ((k + 1 : Nat) : Int)]) (by simp [results, Try.results27, go_sem]) rfl ⟨.inl ⟨(H : Int), _, by rw [HZg.out]; exact HM2.out, by omega, by rw [HZg.out, HLL.out]⟩, HB2.out⟩
              · have c1 : ¬ (L : Int) = (k : Int) + 1 := by omega
                have HNo2 := Lib.hid (HNo.out h8 (by rw [HLL.out]; exact hle))
                clear HNo
                go_wp2
                refine bodyPost_ret (v := .tuple #[.int .i64 0, .int .i64 0]) (by simp [results, Try.results27, go_sem]) rfl ⟨.inr ⟨rfl, HNo2.out⟩, HB2.out⟩
            · skip
              go_wp2_with fail
              refine (refNum (-(H : Int) - 1) W (by omega)).mono ?_
              rintro e w2 ⟨bn, vn, rfl, hbn, hvn, hb2, _⟩
              have hz : zig (-(H : Int) - 1) = X := by
                have := HH.out
                unfold zig
                split <;> omega
              rw [hz] at hvn
              have HZg := Lib.hid hz
              have HB2 := Lib.hid hb2
              obtain ⟨An, cn, rfl, -⟩ := hvn
              obtain ⟨L, hL⟩ : ∃ L, (vb X).length = L := ⟨_, rfl⟩
              have HLL := Lib.hid hL
              rw [hL]
              clear hbn hb2 hz hL
              by_cases hle : L = k + 1
              · subst hle
                have c1 : ((k + 1 : Nat) : Int) = (k : Int) + 1 := by omega
                have HM2 := Lib.hid (HM.out h8 HLL.out)
                clear HM
                go_wp2
                refine bodyPost_ret (v := .tuple #[.int .i64 ((-(H : Int) - 1)), .int .i64 ((k + 1 : Nat) : Int)]) (by simp [results, Try.results27, go_sem]) rfl ⟨.inl ⟨(-(H : Int) - 1), _, by rw [HZg.out]; exact HM2.out, by omega, by rw [HZg.out, HLL.out]⟩, HB2.out⟩
              · have c1 : ¬ (L : Int) = (k : Int) + 1 := by omega
                have HNo2 := Lib.hid (HNo.out h8 (by rw [HLL.out]; exact hle))
                clear HNo
                go_wp2
                refine bodyPost_ret (v := .tuple #[.int .i64 0, .int .i64 0]) (by simp [results, Try.results27, go_sem]) rfl ⟨.inr ⟨rfl, HNo2.out⟩, HB2.out⟩
          · have i8 : ¬ (x : Int) < 128 := by omega
            go_wp2_with fail
            go_roundw
            case rel => exact ⟨k + 1, X, by omega, by have := HK1.out; omega, by first | go_num | trivial | rfl, by first | rfl | trivial, by first | exact HXP | trivial, Lib.hid (HKs.out h8), by first | rfl | trivial⟩
            case measure => (have := HK1.out; simp [intOf] <;> omega)
    · rcases (show (k = n ∧ k < 10) ∨ k = 10 by omega) with ⟨rfl, h10⟩ | rfl
      · have i1 : ¬ (k : Int) < k := by omega
        go_wp2
        refine bodyPost_ret (v := .tuple #[.int .i64 0, .int .i64 0]) (by simp [results, Try.results27, go_sem]) rfl ⟨.inr ⟨rfl, fun n rest hr h => vb_long h (zig_lt n hr) HK.out (.inl HN.out.symm)⟩, Below.refl _ _⟩
      · by_cases hkn : 10 < n
        · have i1 : (10 : Int) < n := by omega
          go_wp2
          refine bodyPost_ret (v := .tuple #[.int .i64 0, .int .i64 0]) (by simp [results, Try.results27, go_sem]) rfl ⟨.inr ⟨rfl, fun n rest hr h => vb_long h (zig_lt n hr) HK.out (.inr (Nat.le_refl _))⟩, Below.refl _ _⟩
        · have i1 : ¬ (10 : Int) < n := by omega
          go_wp2
          refine bodyPost_ret (v := .tuple #[.int .i64 0, .int .i64 0]) (by simp [results, Try.results27, go_sem]) rfl ⟨.inr ⟨rfl, fun n rest hr h => vb_long h (zig_lt n hr) HK.out (.inr (Nat.le_refl _))⟩, Below.refl _ _⟩
end Go.Proofs.Ytahggokeelgjdaa
