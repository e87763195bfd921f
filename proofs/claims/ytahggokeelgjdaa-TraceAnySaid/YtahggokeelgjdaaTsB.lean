/- The statement's own Read. -/
import Derived.Test.YtahggokeelgjdaaTsA
namespace Go.Proofs.Ytahggokeelgjdaa
open Go.RowKit
set_option linter.unusedVariables false
set_option linter.unusedSimpArgs false

/-- Bytes that are read, in another block than bl. -/
def RDX (bl : Nat) (W : World) (v : Value) (xs : List Nat) : Prop :=
  ∃ D off c, v = .slice (some ⟨D, off, none⟩) xs.length c ∧ D ≠ bl ∧ D < W.heap.size ∧ xs.length ≤ 140737488351232 ∧ At W D off (u8s xs)
theorem RDX.keep {bl bl' : Nat} {W W' : World} {v : Value} {xs : List Nat} (h : RDX bl W v xs) (hs : W.heap.size ≤ W'.heap.size) (ho : ∀ i, i < W.heap.size → i ≠ bl → W'.heap[i]? = W.heap[i]?) (hb : bl' = bl ∨ W.heap.size ≤ bl') : RDX bl' W' v xs := by
  obtain ⟨D, off, c, e, h1, h2, h3, h4⟩ := h
  exact ⟨D, off, c, e, by rcases hb with rfl | h; exact h1; omega, Nat.lt_of_lt_of_le h2 hs, h3, h4.keep (ho D h2 h1)⟩
theorem RDX.rd {bl : Nat} {W : World} {v : Value} {xs : List Nat} (h : RDX bl W v xs) : RD W v xs := by
  obtain ⟨D, off, c, e, _, h2, h3, h4⟩ := h
  exact ⟨_, c, e, h3, .inr ⟨D, off, rfl, h2, h4⟩⟩
theorem by_new0 (W : World) (o : Obj) (E : TypeId) : BY (W.heap.size + 1) ((W.alloc o).alloc (.cells #[] E)) (.slice (some ⟨W.heap.size + 1, 0, none⟩) 0 0) [] := by
  have h := vz_made 1 (W.alloc o) E
  have e : (W.alloc o).heap.size = W.heap.size + 1 := by simp
  rw [e] at h
  exact h
theorem new8s (W : World) (a : Addr) (v : Value) (p : OV) (E : TypeId) : ∀ j u, (enc8 p)[j]? = some u → ((W.setCell a v).alloc (.cells #[.int .i64 p.o.k, .int .i64 p.o.t, .int .i64 p.o.a, .int .i64 p.o.b, .int .i64 p.o.v, .int .i64 p.o.n, .int .i64 p.o.m, p.dv] E)).cell? ((⟨W.heap.size, 0, none⟩ : Addr).add j) = some u := by
  have := new8 (W.setCell a v) p E
  rwa [size_set] at this
def RP (W : World) (xs : List Nat) (e : Ending) (w' : World) : Prop :=
  ((∃ v' l, e = .returned (.tuple #[v', .bool true]) ∧ OPS w' v' l ∧ (∀ p ∈ l, ∀ x ∈ p.d, x < 256) ∧ CAN xs l) ∨ (e = .returned (.tuple #[.slice none 0 0, .bool false]) ∧ ∀ l, ¬ CAN xs l)) ∧ Below W.heap.size W w'
set_option maxRecDepth 100000 in
set_option maxHeartbeats 6400000 in
theorem refRead (A0 : Option Addr) (c : Nat) (xs : List Nat) (W : World) (h : RD W (.slice A0 xs.length c) xs) (hc : xs.length ≤ c) (hx : ∀ x ∈ xs, x < 256) :
    Calls Try.prog 16 #[.slice A0 xs.length c] W (RP W xs) := by
  obtain ⟨n, hn⟩ : ∃ n, xs.length = n := ⟨_, rfl⟩
  have hn9 : n ≤ 140737488351232 := by obtain ⟨_, _, _, h2, _⟩ := h; omega
  rw [hn] at h hc ⊢
  have HN := Lib.hid hn
  have HD := Lib.hid h
  have HX := Lib.hid hx
  clear hx
  by_cases h4 : n < 4
  · have i1 : (n : Int) < 4 := by omega
    have HF : Hid (∀ l, ¬ CAN xs l) := Lib.hid (fun l hl => by have := hl.four; omega)
    clear h hn
    go_enter Try.func16, Try.ntmps16
    go_wp2
    refine bodyPost_ret (v := .tuple #[.slice none 0 0, .bool false]) (by simp [results, Try.results16, go_sem]) rfl ⟨.inr ⟨rfl, HF.out⟩, alc0 _ _⟩
  obtain ⟨A', c', e', _, hnil | ⟨bd, off, hA, hbd, _⟩⟩ := h
  · rw [hnil] at hn; simp at hn; omega
  injection e' with e1 e2 e3
  rw [hA] at e1
  subst e1
  clear e2 e3 hA hn
  have i1 : ¬ (n : Int) < 4 := by omega
  have i3 : (3 : Int) ≤ n := by omega
  have i3c : (3 : Int) ≤ c := by omega
  have c3 : ¬ c = 3 := by omega
  have hcv := conv_bs (W.alloc (.cells #[] 25)) (.slice (some ⟨bd, off, none⟩) 3 c) (xs.take 3) (by
    have h := rd_sub (HD.out.keep (alc0 W (.cells #[] 25))) 0 3 (by omega) (some ⟨bd, off, none⟩) c (fun _ => rfl)
    rwa [List.drop_zero] at h) (fun y hy => HX.out y (List.mem_of_mem_take hy))
  by_cases hp : xs.take 3 = [67, 84, 49]
  rotate_left
  · have HF : Hid (∀ l, ¬ CAN xs l) := Lib.hid (fun l hl => hp hl.pre)
    obtain ⟨S3, hS3⟩ : ∃ S3, bs (xs.take 3) = S3 := ⟨_, rfl⟩
    have hne : ¬ S3 = ⟨#[67, 84, 49]⟩ := fun h => hp (by rw [← sb_bs (xs.take 3) (fun y hy => HX.out y (List.mem_of_mem_take hy)), hS3, h]; rfl)
    have hne2 : (S3.toList == (⟨#[67, 84, 49]⟩ : ByteArray).toList) = false := by
      rw [tl_eq]
      exact decide_eq_false (fun h => hne (sb_ext h))
    have hte : (⟨#[67, 84, 49]⟩ : ByteArray).toList = [67, 84, 49] := by first | rfl | decide | simp
    rw [hte] at hne2
    have hne3 : (!S3.toList == [67, 84, 49]) = true := by rw [hne2]; rfl
    clear hte
    rw [hS3] at hcv
    clear hp hS3
    go_enter Try.func16, Try.ntmps16
    go_wp2
    refine bodyPost_ret (v := .tuple #[.slice none 0 0, .bool false]) (by simp [results, Try.results16, go_sem]) rfl ⟨.inr ⟨rfl, HF.out⟩, alc0 _ _⟩
  rw [hp, show bs [67, 84, 49] = ⟨#[67, 84, 49]⟩ from rfl] at hcv
  have HP := Lib.hid hp
  clear hp
  go_enter Try.func16, Try.ntmps16
  go_wp2_with fail
  have HB0 : Hid (VO W.heap.size (W.alloc (.cells #[] 25)) (.slice (some ⟨W.heap.size, 0, none⟩) 0 0) []) := Lib.hid (vz_made 8 W _)
  with_reducible refine Calls.mono (refTake _ (xs.drop 3) _ (rd_drop (HD.out.keep (alc0 W _)) 3 (by omega) _ _ (fun _ => rfl)) (fun y hy => HX.out y (List.mem_of_mem_drop hy))) ?_
  rintro e w1 ⟨ht, hB1⟩
  have HB1 : Hid (Below W.heap.size W w1) := Lib.hid (thn (alc0 _ _) hB1)
  have HV1 : Hid (VO W.heap.size w1 (.slice (some ⟨W.heap.size, 0, none⟩) 0 0) []) := Lib.hid (VZ.below HB0.out hB1)
  clear hB1 HB0 hcv
  rcases ht with ⟨n0, rest, hxr, hr, rfl⟩ | ⟨rfl, hno⟩
  rotate_left
  · have HF : Hid (∀ l, ¬ CAN xs l) := Lib.hid (fun l hl => hno _ _ hl.len hl.tail)
    clear hno
    go_wp2
    refine bodyPost_ret (v := .tuple #[.slice none 0 0, .bool false]) (by simp [results, Try.results16, go_sem]) rfl ⟨.inr ⟨rfl, HF.out⟩, HB1.out⟩
  obtain ⟨K, hK⟩ : ∃ K, (vb (zig n0)).length = K := ⟨_, rfl⟩
  have hK0 : 0 < K := by rw [← hK]; exact vb_pos _
  have hKl : 3 + K ≤ n := by
    have h := congrArg List.length hxr
    rw [List.length_append, List.length_drop, HN.out, hK] at h
    omega
  have HXR := Lib.hid hxr
  have HR := Lib.hid hr
  have HK := Lib.hid hK
  rw [hK]
  have k0 : ¬ (K : Int) = 0 := by omega
  have k1 : IntKind.i64.wrap (3 + (K : Int)) = ((3 + K : Nat) : Int) := by rw [IntKind.wrap_i64]; omega
  have HIN : Hid (∀ l, CAN xs l → (l.length : Int) = n0 ∧ rest = flat l) := Lib.hid (fun l hl => by
    have h := num_inj hl.len HR.out (hl.tail.symm.trans HXR.out)
    exact ⟨h.1, h.2.symm⟩)
  clear hxr hr hK
  by_cases hm0 : n0 < 0
  · have HF : Hid (∀ l, ¬ CAN xs l) := Lib.hid (fun l hl => by have := (HIN.out l hl).1; omega)
    go_wp2
    refine bodyPost_ret (v := .tuple #[.slice none 0 0, .bool false]) (by simp [results, Try.results16, go_sem]) rfl ⟨.inr ⟨rfl, HF.out⟩, HB1.out⟩
  by_cases hm5 : 500 < n0
  · have HF : Hid (∀ l, ¬ CAN xs l) := Lib.hid (fun l hl => by have := (HIN.out l hl).1; have := hl.may.1; omega)
    go_wp2
    refine bodyPost_ret (v := .tuple #[.slice none 0 0, .bool false]) (by simp [results, Try.results16, go_sem]) rfl ⟨.inr ⟨rfl, HF.out⟩, HB1.out⟩
  obtain ⟨M, hM⟩ : ∃ M : Nat, n0 = (M : Int) := ⟨n0.toNat, by omega⟩
  subst hM
  have hM5 : M ≤ 500 := by omega
  obtain ⟨a0, ha0⟩ : ∃ a0, 3 + K = a0 := ⟨_, rfl⟩
  rw [ha0] at k1 hKl
  have HPOS : Hid (xs = [67, 84, 49] ++ (vb (zig (M : Int)) ++ xs.drop a0)) := Lib.hid (by
    have h1 := List.take_append_drop 3 xs
    rw [HP.out, HXR.out] at h1
    have h2 : xs.drop a0 = rest := by
      rw [← ha0, ← List.drop_drop, HXR.out, ← HK.out, List.drop_left]
    rw [h2]
    exact h1.symm)
  have HLE : Hid (LEFT xs M a0) := Lib.hid (fun l hl => by
    obtain ⟨h1, h2⟩ := HIN.out l hl
    refine ⟨l, by omega, fun p hp => ⟨hl.2.1 p hp, hl.may.2 p hp⟩, ?_⟩
    rw [← ha0, ← List.drop_drop, HXR.out, ← HK.out, List.drop_left, h2])
  clear ha0
  have kb0 : ((K : Int) == 0) = false := beq_eq_false_iff_ne.2 k0
  have km0 : decide ((M : Int) < 0) = false := decide_eq_false hm0
  have km5 : decide (500 < (M : Int)) = false := decide_eq_false hm5
  go_wp2_with fail
  clear kb0 km0 km5 k0 k1 hm0 hm5
  go_loopw [4, 7, 8] (fun v4 v7 v8 wr => ∃ (i a bl ob cl : Nat) (lo : List OV), i ≤ M ∧ a ≤ n ∧ v8 = .int .i64 i ∧ v7 = .int .i64 a ∧ v4 = .slice (some ⟨bl, ob, none⟩) i cl ∧ Hid (lo.length = i ∧ W.heap.size ≤ bl) ∧ Hid (VO bl wr (.slice (some ⟨bl, ob, none⟩) i cl) lo) ∧ Hid (∀ p ∈ lo, (p.o.ok ∧ RDX bl wr p.dv p.d) ∧ p.d.length ≤ 4096 ∧ ∀ x ∈ p.d, x < 256) ∧ Hid (xs = [67, 84, 49] ++ (vb (zig (M : Int)) ++ (flat lo ++ xs.drop a))) ∧ Hid (LEFT xs (M - i) a) ∧ Hid (Below W.heap.size W wr)) (fun _ _ v8 _ => M - (intOf v8).toNat)
  case atStart => exact ⟨0, a0, W.heap.size, 0, 0, [], by omega, hKl, rfl, rfl, rfl, Lib.hid ⟨rfl, Nat.le_refl _⟩, HV1, Lib.hid (by simp), HPOS, HLE, HB1⟩
  case round =>
    clear HPOS HLE HB1 HV1 HIN HXR hKl
    obtain ⟨i, a, bl, ob, cl, lo, hi, ha, rfl, rfl, rfl, HLO, HV, HE, HPOS, HLE, HB⟩ := hrel
    by_cases hlt : i < M
    · have j1 : (i : Int) < M := by omega
      rename World => wo
      have hbl : bl < wo.heap.size := by
        obtain ⟨A1, c1, e1, _, _, _, _, ⟨h5, _, _⟩ | ⟨o1, h5, h6, _⟩⟩ := HV.out
        · injection e1 with e1 _ _
          rw [h5] at e1
          cases e1
        · exact h6
      go_wp2_with fail
      obtain ⟨g, hg⟩ : ∃ g, wo.heap.size = g := ⟨_, rfl⟩
      have HG := Lib.hid hg
      obtain ⟨w0, hw0⟩ : ∃ w0, wo.alloc (.cells #[.int .i64 0, .int .i64 0, .int .i64 0, .int .i64 0, .int .i64 0, .int .i64 0, .int .i64 0, .int .i64 0] 56) = w0 := ⟨_, rfl⟩
      have HA0 : Hid (Arr8 g w0 (fun _ => 0)) := Lib.hid (by rw [← hw0, ← hg]; exact arr8_new wo _)
      have HB0 : Hid (Below wo.heap.size wo w0) := Lib.hid (by rw [← hw0]; exact alc0 _ _)
      have HBL := Lib.hid hbl
      clear hbl
      rw [hw0, hg]
      clear hw0 hg
      go_loopw [7, 10] (fun v7 v10 wx => ∃ (j a1 : Nat) (ns : List Int) (f : Nat → Int), j ≤ 8 ∧ a1 ≤ n ∧ v10 = .int .i64 j ∧ v7 = .int .i64 a1 ∧ Hid (ns.length = j ∧ ∀ m ∈ ns, inR m) ∧ Hid (Arr8 g wx f ∧ ∀ q, q < j → ns[q]? = some (f q)) ∧ Hid (xs.drop a = vbs ns ++ xs.drop a1) ∧ Hid (OB g w0 wx)) (fun _ v10 _ => 8 - (intOf v10).toNat)
      case atStart => exact ⟨0, a, [], fun _ => 0, by omega, ha, rfl, rfl, Lib.hid ⟨rfl, by simp⟩, Lib.hid ⟨HA0.out, fun q hq => by omega⟩, Lib.hid (by simp [vbs]), Lib.hid (OB.of_below (Below.refl _ _))⟩
      case round =>
        clear HA0 ha
        obtain ⟨j, a1, ns, f, hj, ha1, rfl, rfl, HNS, HA, HDR, HO⟩ := hrel
        have HBw0 : Hid (Below wo.heap.size wo wr) := Lib.hid (HB0.out.trans (HO.out.2.2 wo.heap.size (by rw [HG.out]; exact Nat.le_refl _) HB0.out.size))
        have HBx : Hid (Below W.heap.size W wr) := Lib.hid (HB.out.trans (HBw0.out.mono HB.out.size))
        have HCANC : Hid (∀ l, CAN xs l → ∃ (p : OV) (l3 : List OV), l3.length = M - (i + 1) ∧ (p.o.ok ∧ p.d.length ≤ 4096) ∧ (∀ p ∈ l3, p.o.ok ∧ p.d.length ≤ 4096) ∧ ns = (n8 p).take j ∧ xs.drop a1 = vbs ((n8 p).drop j) ++ (p.d ++ flat l3)) := Lib.hid (fun l hl => by
          have hle := HLE.out
          rw [show M - i = (M - (i + 1)) + 1 by omega] at hle
          obtain ⟨p, l3, h1, h2, h3, h4⟩ := hle.next hl
          have h5 := vbs_cancel ns (n8 p) _ _ HNS.out.2 (n8_in h2.1 h2.2) (by rw [HNS.out.1, n8_len]; exact hj) (HDR.out.symm.trans h4)
          rw [HNS.out.1] at h5
          exact ⟨p, l3, h1, h2, h3, h5.1, h5.2⟩)
        by_cases hj8 : j < 8
        · have j2 : (j : Int) < 8 := by omega
          obtain ⟨Aq, hAq, hAq2⟩ : ∃ Aq : Option Addr, (if c = a1 then some (⟨bd, off, none⟩ : Addr) else some ⟨bd, off + a1, none⟩) = Aq ∧ (a1 < n → Aq = some ⟨bd, off + a1, none⟩) := ⟨_, rfl, fun h => if_neg (by omega)⟩
          have HRD : Hid (RD wr (.slice Aq (n - a1) (c - a1)) (xs.drop a1)) := Lib.hid (rd_drop (HD.out.keep HBx.out) a1 ha1 Aq (c - a1) hAq2)
          have ia : (a1 : Int) ≤ n := by omega
          have ia0 : (0 : Int) ≤ a1 := by omega
          clear hAq2
          go_wp2_with fail
          with_reducible refine Calls.mono (refTake _ (xs.drop a1) wr HRD.out (fun y hy => HX.out y (List.mem_of_mem_drop hy))) ?_
          rintro e w3 ⟨ht, hB3⟩
          have HB3 := Lib.hid hB3
          have HBn : Hid (Below W.heap.size W w3) := Lib.hid (HBx.out.trans (hB3.mono HBx.out.size))
          clear hB3 hAq
          rcases ht with ⟨n1, rest, hxr, hr, rfl⟩ | ⟨rfl, hno⟩
          rotate_left
          · have HF : Hid (∀ l, ¬ CAN xs l) := Lib.hid (fun l hl => by
              obtain ⟨p, l3, h1, h2, h3, h4, h5⟩ := HCANC.out l hl
              have hd := List.drop_eq_getElem_cons (l := n8 p) (i := j) (by rw [n8_len]; exact hj8)
              rw [hd, vbs_cons, List.append_assoc] at h5
              exact hno _ _ (n8_in h2.1 h2.2 _ (List.getElem_mem _)) h5)
            clear hno
            go_wp2
            refine bodyPost_ret (v := .tuple #[.slice none 0 0, .bool false]) (by simp [results, Try.results16, go_sem]) rfl ⟨.inr ⟨rfl, HF.out⟩, HBn.out⟩
          obtain ⟨K1, hK1⟩ : ∃ K1, (vb (zig n1)).length = K1 := ⟨_, rfl⟩
          have hK10 : 0 < K1 := by rw [← hK1]; exact vb_pos _
          have hK1l : a1 + K1 ≤ n := by
            have h := congrArg List.length hxr
            rw [List.length_append, List.length_drop, HN.out, hK1] at h
            omega
          have HXR := Lib.hid hxr
          have HR := Lib.hid hr
          have HK := Lib.hid hK1
          rw [hK1]
          have k0 : ¬ (K1 : Int) = 0 := by omega
          have kb0 : ((K1 : Int) == 0) = false := beq_eq_false_iff_ne.2 k0
          have k1 : IntKind.i64.wrap ((a1 : Int) + (K1 : Int)) = ((a1 + K1 : Nat) : Int) := by rw [IntKind.wrap_i64]; omega
          have hgz : g < wr.heap.size := HA.out.1.1
          have HA3 : Hid (Arr8 g w3 f) := Lib.hid (HA.out.1.keep HB3.out.size (HB3.out.block g hgz))
          have ca := HA3.out.2.1 j hj8
          have cf := HA3.out.2.2 j
          have HA4 : Hid (Arr8 g (w3.setCell ⟨g, j, none⟩ (.int .i64 n1)) (fun q => if q = j then n1 else f q) ∧ ∀ q, q < j + 1 → (ns ++ [n1])[q]? = some ((fun q => if q = j then n1 else f q) q)) := Lib.hid ⟨HA3.out.set j hj8 n1, fun q hq => by
            by_cases e : q = j
            · subst e
              simp only [if_true]
              rw [List.getElem?_append_right (by rw [HNS.out.1]; exact Nat.le_refl _), HNS.out.1, Nat.sub_self]
              rfl
            · simp only [if_neg e]
              rw [List.getElem?_append_left (by rw [HNS.out.1]; omega)]
              exact HA.out.2 q (by omega)⟩
          have HNS4 : Hid ((ns ++ [n1]).length = j + 1 ∧ ∀ m ∈ ns ++ [n1], inR m) := Lib.hid ⟨by rw [List.length_append, HNS.out.1]; rfl, fun m hm => by
            rcases List.mem_append.1 hm with h | h
            · exact HNS.out.2 m h
            · simp at h; subst h; exact HR.out⟩
          have HDR4 : Hid (xs.drop a = vbs (ns ++ [n1]) ++ xs.drop (a1 + K1)) := Lib.hid (by
            rw [HDR.out, vbs_snoc, ← List.drop_drop, HXR.out, ← HK.out, List.drop_left, List.append_assoc])
          have HO4 : Hid (OB g w0 (w3.setCell ⟨g, j, none⟩ (.int .i64 n1))) := Lib.hid ((HO.out.trans (OB.of_below HB3.out) (.inl rfl)).trans (ob_set g j w3 _) (.inl rfl))
          clear hxr hr hK1
          go_wp2_with fail
          go_roundw
          case rel => exact ⟨j + 1, a1 + K1, ns ++ [n1], _, by omega, hK1l, by go_num, by go_num, HNS4, HA4, HDR4, HO4⟩
          case measure => simp [intOf] <;> omega
        · obtain rfl : j = 8 := by omega
          obtain ⟨L, hL⟩ : ∃ L, f 7 = L := ⟨_, rfl⟩
          have hns : ns = [f 0, f 1, f 2, f 3, f 4, f 5, f 6, L] := by
            have h8 := HNS.out.1
            have hq := HA.out.2
            match ns, h8 with
            | [m0, m1, m2, m3, m4, m5, m6, m7], _ =>
              have q0 := Option.some.inj (hq 0 (by decide))
              have q1 := Option.some.inj (hq 1 (by decide))
              have q2 := Option.some.inj (hq 2 (by decide))
              have q3 := Option.some.inj (hq 3 (by decide))
              have q4 := Option.some.inj (hq 4 (by decide))
              have q5 := Option.some.inj (hq 5 (by decide))
              have q6 := Option.some.inj (hq 6 (by decide))
              have q7 := Option.some.inj (hq 7 (by decide))
              rw [q0, q1, q2, q3, q4, q5, q6, q7, hL]
          have HNE8 := Lib.hid hns
          have HCC : Hid (∀ l, CAN xs l → ∃ (p : OV) (l3 : List OV), l3.length = M - (i + 1) ∧ (p.o.ok ∧ p.d.length ≤ 4096) ∧ (∀ p ∈ l3, p.o.ok ∧ p.d.length ≤ 4096) ∧ L = (p.d.length : Int) ∧ xs.drop a1 = p.d ++ flat l3) := Lib.hid (fun l hl => by
            obtain ⟨p, l3, h1, h2, h3, h4, h5⟩ := HCANC.out l hl
            refine ⟨p, l3, h1, h2, h3, ?_, ?_⟩
            · rw [hns, List.take_of_length_le (by rw [n8_len]; exact Nat.le_refl _)] at h4
              have h6 := congrArg (fun q => q[7]?) h4
              exact Option.some.inj h6
            · have hd := List.drop_of_length_le (l := n8 p) (i := 8) (by rw [n8_len]; exact Nat.le_refl _)
              rw [hd] at h5
              exact h5)
          have HCL : Hid (∀ l, CAN xs l → 0 ≤ L ∧ L ≤ 4096 ∧ L ≤ ((n - a1 : Nat) : Int)) := Lib.hid (fun l hl => by
            obtain ⟨p, l3, h1, h2, h3, h4, h5⟩ := HCC.out l hl
            have h6 := congrArg List.length h5
            rw [List.length_drop, HN.out, List.length_append] at h6
            have := h2.2
            omega)
          have ca0 := HA.out.1.2.1 0 (by decide)
          have ca1 := HA.out.1.2.1 1 (by decide)
          have ca2 := HA.out.1.2.1 2 (by decide)
          have ca3 := HA.out.1.2.1 3 (by decide)
          have ca4 := HA.out.1.2.1 4 (by decide)
          have ca5 := HA.out.1.2.1 5 (by decide)
          have ca6 := HA.out.1.2.1 6 (by decide)
          have ca7 := HA.out.1.2.1 7 (by decide)
          rw [hL] at ca7
          have kd : IntKind.i64.wrap ((n : Int) - (a1 : Int)) = ((n - a1 : Nat) : Int) := by rw [IntKind.wrap_i64]; omega
          have HBn := HBx
          clear hL hns
          by_cases hl0 : L < 0
          · have HF : Hid (∀ l, ¬ CAN xs l) := Lib.hid (fun l hl => by have := (HCL.out l hl).1; omega)
            go_wp2
            refine bodyPost_ret (v := .tuple #[.slice none 0 0, .bool false]) (by simp [results, Try.results16, go_sem]) rfl ⟨.inr ⟨rfl, HF.out⟩, HBn.out⟩
          by_cases hl4 : 4096 < L
          · have HF : Hid (∀ l, ¬ CAN xs l) := Lib.hid (fun l hl => by have := (HCL.out l hl).2.1; omega)
            have lb0 : decide (L < 0) = false := decide_eq_false hl0
            go_wp2
            refine bodyPost_ret (v := .tuple #[.slice none 0 0, .bool false]) (by simp [results, Try.results16, go_sem]) rfl ⟨.inr ⟨rfl, HF.out⟩, HBn.out⟩
          by_cases hln : ((n - a1 : Nat) : Int) < L
          · have HF : Hid (∀ l, ¬ CAN xs l) := Lib.hid (fun l hl => by have := (HCL.out l hl).2.2; omega)
            have lb0 : decide (L < 0) = false := decide_eq_false hl0
            have lb4 : decide (4096 < L) = false := decide_eq_false hl4
            go_wp2
            refine bodyPost_ret (v := .tuple #[.slice none 0 0, .bool false]) (by simp [results, Try.results16, go_sem]) rfl ⟨.inr ⟨rfl, HF.out⟩, HBn.out⟩
          obtain ⟨D, rfl⟩ : ∃ D : Nat, L = (D : Int) := ⟨L.toNat, by omega⟩
          have hDn : a1 + D ≤ n := by omega
          have hD4 : D ≤ 4096 := by omega
          have lb0 : decide ((D : Int) < 0) = false := decide_eq_false hl0
          have lb4 : decide (4096 < (D : Int)) = false := decide_eq_false hl4
          have lbn : decide (((n - a1 : Nat) : Int) < (D : Int)) = false := decide_eq_false hln
          obtain ⟨Aq, hAq, hAq2⟩ : ∃ Aq : Option Addr, (if c = a1 then some (⟨bd, off, none⟩ : Addr) else some ⟨bd, off + a1, none⟩) = Aq ∧ (a1 < n → Aq = some ⟨bd, off + a1, none⟩) := ⟨_, rfl, fun h => if_neg (by omega)⟩
          obtain ⟨dd, hdd⟩ : ∃ dd, (xs.drop a1).take D = dd := ⟨_, rfl⟩
          have hdl : dd.length = D := by rw [← hdd, List.length_take, List.length_drop, HN.out]; omega
          have HRS : Hid (RD wr (.slice Aq D (c - a1)) dd) := Lib.hid (by
            rw [← hdd]
            exact rd_sub (HD.out.keep HBx.out) a1 D hDn Aq (c - a1) (fun h => hAq2 (by omega)))
          have HDL := Lib.hid hdl
          have HDX : Hid (xs.drop a1 = dd ++ xs.drop (a1 + D) ∧ ∀ y ∈ dd, y < 256) := Lib.hid ⟨by rw [← hdd, ← List.drop_drop, List.take_append_drop], fun y hy => HX.out y (List.mem_of_mem_drop (List.mem_of_mem_take (by rw [hdd]; exact hy)))⟩
          have kaD : IntKind.i64.wrap ((a1 : Int) + (D : Int)) = ((a1 + D : Nat) : Int) := by rw [IntKind.wrap_i64]; omega
          have kcc : ((a1 + D : Nat) : Int) ≤ c := by omega
          have kc2 : a1 + D ≤ c := by omega
          have kc3 : a1 ≤ a1 + D := by omega
          have kc4 : (a1 : Int) ≤ ((a1 + D : Nat) : Int) := by omega
          have ia0 : (0 : Int) ≤ a1 := by omega
          have ksub : a1 + D - a1 = D := by omega
          have hbig : ([] : List Nat).length + dd.length ≤ 140737488355328 := by rw [hdl]; simp; omega
          have HBIG := Lib.hid hbig
          have hgz : g < wr.heap.size := HA.out.1.1
          have hgn : g ≠ wr.heap.size := by omega
          have hgn2 : g ≠ wr.heap.size + 1 := by omega
          have hga : ∀ o1, (wr.alloc o1).cell? ⟨g, 7, none⟩ = some (.int .i64 (D : Int)) := fun o1 => (World.cell?_alloc_lt _ _ _ hgz).trans ca7
          have hgb : ∀ o1 o2, ((wr.alloc o1).alloc o2).cell? ⟨g, 7, none⟩ = some (.int .i64 (D : Int)) := fun o1 o2 => (World.cell?_alloc_lt _ _ _ (by rw [World.size_alloc]; exact Nat.lt_succ_of_lt hgz)).trans (hga o1)
          clear hAq2 hdd hdl hbig hl0 hl4 hln
          go_wp2_with (at_builtin; refine app_by rfl _ _ rfl (wr.heap.size + 1) _ [] rfl (by_new0 wr _ _) (.slice Aq D (c - a1)) dd (by first | rfl | (simp only [Act.eval, List.getElem_toArray, List.getElem_cons_succ, List.getElem_cons_zero]; done) | (simp [Act.eval, Act.put])) (HRS.out.keep (alc (alc0 _ _) _)) HBIG.out ?_)
          rintro v5 w5 ⟨b5, hb5, hv5, ho5, hn5⟩
          try rw [List.nil_append] at hv5
          have hz0 : ((wr.alloc (.cells #[.int .i64 (f 0), .int .i64 (f 1), .int .i64 (f 2), .int .i64 (f 3), .int .i64 (f 4), .int .i64 (f 5), .int .i64 (f 6), .slice none 0 0] 25)).alloc (.cells #[] 5)).heap.size = wr.heap.size + 2 := by simp
          have hos := HBw0.out.size
          have hblw := HBL.out
          have hgo := HG.out
          have hz5 : wr.heap.size + 2 ≤ w5.heap.size := by have := ho5.1; rw [hz0] at this; exact this
          have hb5' : wr.heap.size + 1 ≤ b5 := by rcases hb5 with rfl | h; exact Nat.le_refl _; rw [hz0] at h; omega
          have hB5 : Below wo.heap.size wo w5 := (HBw0.out.trans ((alc (alc0 wr _) _).mono hos)).trans (ho5.2.2 wo.heap.size (by omega) (by rw [hz0]; omega))
          have hhb : w5.heap[wr.heap.size]? = some (.cells #[.int .i64 (f 0), .int .i64 (f 1), .int .i64 (f 2), .int .i64 (f 3), .int .i64 (f 4), .int .i64 (f 5), .int .i64 (f 6), .slice none 0 0] 25) := by
            rw [ho5.2.1 wr.heap.size (by rw [hz0]; omega) (by omega), Below.heap_alloc _ _ _ (by simp)]
            show (wr.heap.push _)[wr.heap.size]? = _
            simp
          have hg5 : w5.heap[g]? = wr.heap[g]? := by
            rw [ho5.2.1 g (by rw [hz0]; omega) (by omega), Below.heap_alloc _ _ _ (by simp; omega), Below.heap_alloc _ _ _ hgz]
          have hec : ∀ j, w5.cell? ⟨wr.heap.size, j, none⟩ = (#[Value.int .i64 (f 0), .int .i64 (f 1), .int .i64 (f 2), .int .i64 (f 3), .int .i64 (f 4), .int .i64 (f 5), .int .i64 (f 6), .slice none 0 0] : Array Value)[j]? := fun j => cell_of_row _ _ j _ _ _ hhb
          have ef : w5.frozen? ⟨wr.heap.size, 7, none⟩ = false := by unfold World.frozen?; simp only [hhb]; rfl
          have e0 := hec 0
          have e1 := hec 1
          have e2 := hec 2
          have e3 := hec 3
          have e4 := hec 4
          have e5 := hec 5
          have e6 := hec 6
          have e7 := hec 7
          simp only [List.getElem?_toArray, List.getElem?_cons_zero, List.getElem?_cons_succ] at e0 e1 e2 e3 e4 e5 e6 e7
          have hv5s := hv5
          obtain ⟨A5, c5, rfl, -, -, -, -, h5c⟩ := hv5s
          obtain ⟨o5, rfl, hb5z, hat5⟩ : ∃ o5, A5 = some ⟨b5, o5, none⟩ ∧ b5 < w5.heap.size ∧ At w5 b5 o5 (u8s dd) := by
            rcases h5c with ⟨h1, h2, h3⟩ | ⟨o', h1, h2, h3, _⟩
            · have := hn5 (by rw [h1, h2, h3])
              simp at this
            · exact ⟨o', h1, h2, h3⟩
          have HRX5 : Hid (RDX bl w5 (.slice (some ⟨b5, o5, none⟩) dd.length c5) dd) := Lib.hid ⟨b5, o5, c5, rfl, by omega, hb5z, by rw [HDL.out]; omega, hat5⟩
          have HV5 : Hid (VZ 8 bl w5 (.slice (some ⟨bl, ob, none⟩) i cl) i (lo.flatMap enc8)) := Lib.hid (by
            have h : VZ 8 bl wo (.slice (some ⟨bl, ob, none⟩) i cl) lo.length (lo.flatMap enc8) := HV.out
            rw [HLO.out.1] at h
            exact h.below hB5)
          have HB5 := Lib.hid hB5
          have HG5 := Lib.hid hg5
          have HZ5 := Lib.hid hz5
          have hblne : bl ≠ wr.heap.size := by omega
          obtain ⟨p, hp⟩ : ∃ p : OV, (⟨⟨f 0, f 1, f 2, f 3, f 4, f 5, f 6⟩, dd, .slice (some ⟨b5, o5, none⟩) dd.length c5⟩ : OV) = p := ⟨_, rfl⟩
          have HPP := Lib.hid hp
          have hone : ∀ u ∈ enc8 ⟨⟨f 0, f 1, f 2, f 3, f 4, f 5, f 6⟩, dd, .slice (some ⟨b5, o5, none⟩) dd.length c5⟩, u.oneCell' = true := enc8_one (p := ⟨⟨f 0, f 1, f 2, f 3, f 4, f 5, f 6⟩, dd, .slice (some ⟨b5, o5, none⟩) dd.length c5⟩) HRX5.out.rd
          have HON := Lib.hid hone
          have HN8 : Hid (n8 p = ns) := Lib.hid (by rw [← hp, HNE8.out]; show [f 0, f 1, f 2, f 3, f 4, f 5, f 6, (dd.length : Int)] = _; rw [HDL.out])
          have HOKp : Hid (p.o.ok) := Lib.hid (fun x hx => by
            have : x ∈ n8 p := List.mem_append_left _ hx
            rw [HN8.out] at this
            exact HNS.out.2 x this)
          have HBB5 : Hid (wr.heap.size + 1 ≤ b5) := Lib.hid hb5'
          have HOSZ : Hid (wo.heap.size ≤ wr.heap.size) := Lib.hid hos
          clear hos hgo hz5 hb5' hB5 hhb hg5 hec hv5 h5c hn5 hb5 ho5 hz0 hga hgb hone hp hat5 hb5z kcc kc2 kc3 kc4 ksub lb0 lb4 lbn hAq ca0 ca1 ca2 ca3 ca4 ca5 ca6 kd
          go_wp2_with (at_builtin; refine app_vz tyOp rfl _ _ rfl bl (.slice (some ⟨bl, ob, none⟩) i cl) i (lo.flatMap enc8) (by first | rfl | (simp [Act.eval, Act.put])) (VZ.below (VZ.far HV5.out hblne) (alc0 _ _)) ⟨w5.heap.size, 0, none⟩ 1 1 (enc8 ⟨⟨f 0, f 1, f 2, f 3, f 4, f 5, f 6⟩, dd, .slice (some ⟨b5, o5, none⟩) dd.length c5⟩) (by first | rfl | (simp [Act.eval, Act.put])) rfl (new8s w5 _ _ ⟨⟨f 0, f 1, f 2, f 3, f 4, f 5, f 6⟩, dd, .slice (some ⟨b5, o5, none⟩) dd.length c5⟩ _) HON.out (.inl (by decide)) (by omega) ?_)
          rintro v9 w9 ⟨b9, hb9, hv9, hs9, ho9, hl9⟩
          have hz5 := HZ5.out
          have hbb5 := HBB5.out
          have hosz := HOSZ.out
          have hblw := HBL.out
          have hg9o := HG.out
          have hs9' : w5.heap.size + 1 ≤ w9.heap.size := by rw [World.size_alloc, size_set] at hs9; exact hs9
          have ho9' : ∀ q, q < w5.heap.size → q ≠ bl → q ≠ wr.heap.size → w9.heap[q]? = w5.heap[q]? := fun q hq h1 h2 => by
            rw [ho9 q (by rw [World.size_alloc, size_set]; omega) h1, Below.heap_alloc _ _ _ (by rw [size_set]; exact hq), heap_other _ _ _ _ _ h2]
          have hwo : W.heap.size ≤ wo.heap.size := HB.out.size
          have hB9 : Below W.heap.size W w9 := by
            have h1 : Below W.heap.size W w5 := HB.out.trans (HB5.out.mono hwo)
            have h2 := h1.trans ((ob_set wr.heap.size 7 w5 (.slice (some ⟨b5, o5, none⟩) dd.length c5)).2.2 W.heap.size (by omega) (by omega))
            have h3 := h2.alloc (by rw [size_set]; omega) (.cells #[.int .i64 (f 0), .int .i64 (f 1), .int .i64 (f 2), .int .i64 (f 3), .int .i64 (f 4), .int .i64 (f 5), .int .i64 (f 6), .slice (some ⟨b5, o5, none⟩) dd.length c5] 25)
            exact h3.trans (hl9 W.heap.size HLO.out.2 (by rw [World.size_alloc, size_set]; omega))
          have hb9' : b9 = bl ∨ w5.heap.size + 1 ≤ b9 := by
            rcases hb9 with h | h
            · exact .inl h
            · rw [World.size_alloc, size_set] at h; exact .inr h
          have hvo9 : VO b9 w9 v9 (lo ++ [p]) := by
            show VZ 8 b9 w9 v9 (lo ++ [p]).length ((lo ++ [p]).flatMap enc8)
            have e : [p].flatMap enc8 = enc8 p := by simp
            rw [List.flatMap_append, List.length_append, HLO.out.1, e, ← HPP.out]
            exact hv9
          have hg9 : w9.heap[g]? = wr.heap[g]? := (ho9' g (by omega) (by omega) (by omega)).trans HG5.out
          have ca9 : w9.cell? ⟨g, 7, none⟩ = some (.int .i64 (D : Int)) := (World.cell?_of_block hg9).trans ca7
          have HE9 : Hid (∀ q ∈ lo ++ [p], (q.o.ok ∧ RDX b9 w9 q.dv q.d) ∧ q.d.length ≤ 4096 ∧ ∀ x ∈ q.d, x < 256) := Lib.hid (fun q hq => by
            rcases List.mem_append.1 hq with h | h
            · obtain ⟨⟨h1, h2⟩, h3⟩ := HE.out q h
              refine ⟨⟨h1, h2.keep (by omega) (fun k hk hkb => ?_) (by rcases hb9' with h | h; exact .inl h; exact .inr (by omega))⟩, h3⟩
              rw [ho9' k (by omega) hkb (by omega), HB5.out.block k hk]
            · simp only [List.mem_singleton] at h
              subst h
              refine ⟨⟨HOKp.out, ?_⟩, ?_, ?_⟩
              · obtain ⟨D9, off9, c9, e9, h1, h2, h3, h4⟩ := HRX5.out
                injection e9 with e9 _ _
                injection e9 with e9
                injection e9 with e9 _ _
                subst e9
                rw [← HPP.out]
                exact ⟨b5, o5, c5, rfl, by rcases hb9' with h | h <;> omega, by omega, h3, by
                  obtain ⟨D8, off8, c8, e8, _, _, _, h8⟩ := HRX5.out
                  injection e8 with e8 _ _
                  injection e8 with e8
                  injection e8 with e81 e82 _
                  subst e81
                  subst e82
                  exact h8.keep (ho9' b5 h2 h1 (by omega))⟩
              · rw [← HPP.out]
                show dd.length ≤ 4096
                rw [HDL.out]
                exact hD4
              · rw [← HPP.out]
                exact HDX.out.2)
          have HPOS9 : Hid (xs = [67, 84, 49] ++ (vb (zig (M : Int)) ++ (flat (lo ++ [p]) ++ xs.drop (a1 + D)))) := Lib.hid (by
            have e1 : flat (lo ++ [p]) = flat lo ++ (vbs ns ++ dd) := by
              have e2 : flat [p] = oneB p.o p.d := by simp [flat]
              have e3 : flat (lo ++ [p]) = flat lo ++ flat [p] := by simp [flat]
              have e4 : p.d = dd := by rw [← HPP.out]
              rw [e3, e2, oneB_n8, HN8.out, e4]
            have h := HPOS.out
            rw [HDR.out, HDX.out.1] at h
            rw [e1, List.append_assoc, List.append_assoc]
            exact h)
          have HLE9 : Hid (LEFT xs (M - (i + 1)) (a1 + D)) := Lib.hid (fun l hl => by
            obtain ⟨p', l3, h1, h2, h3, h4, h5⟩ := HCC.out l hl
            refine ⟨l3, h1, h3, ?_⟩
            have hD : D = p'.d.length := by omega
            rw [← List.drop_drop, h5, hD, List.drop_left])
          have HLO9 : Hid ((lo ++ [p]).length = i + 1 ∧ W.heap.size ≤ b9) := Lib.hid ⟨by rw [List.length_append, HLO.out.1]; rfl, by have := HLO.out.2; rcases hb9' with h | h <;> omega⟩
          have HB9 := Lib.hid hB9
          have hv9s := hv9
          obtain ⟨A9, c9, rfl, -, -, -, -, alt9⟩ := hv9s
          obtain ⟨o9, rfl⟩ : ∃ o9, A9 = some ⟨b9, o9, none⟩ := by
            rcases alt9 with ⟨_, h, _⟩ | ⟨o', h, _⟩
            · omega
            · exact ⟨o', h⟩
          have HV9 : Hid (VO b9 w9 (.slice (some ⟨b9, o9, none⟩) (i + 1) c9) (lo ++ [p])) := Lib.hid hvo9
          have hi9 : i + 1 ≤ M := by omega
          clear hz5 hbb5 hosz hblw hg9o hs9 hs9' ho9 ho9' hwo hB9 hb9 hb9' hvo9 hg9 hv9 hl9 alt9 hblne e0 e1 e2 e3 e4 e5 e6 e7 ef ca7 hgn hgn2 hgz
          go_wp2_with fail
          go_roundw
          case rel => exact ⟨i + 1, a1 + D, b9, o9, c9, lo ++ [p], hi9, hDn, by go_num, by first | rfl | go_num, rfl, HLO9, HV9, HE9, HPOS9, HLE9, HB9⟩
          case measure => simp [intOf] <;> omega
    · obtain rfl : i = M := by omega
      have j1 : ¬ (i : Int) < i := by omega
      by_cases han : a = n
      · subst han
        have HC : Hid (CAN xs lo) := Lib.hid (by
          refine ⟨?_, fun p hp => (HE.out p hp).1.1, ?_⟩
          · rw [mayB, decide_eq_true_iff]
            exact ⟨by rw [HLO.out.1]; exact hM5, fun p hp => (HE.out p hp).2.1⟩
          · have h := HPOS.out
            rw [List.drop_of_length_le (by rw [HN.out]; exact Nat.le_refl _), List.append_nil] at h
            rw [bytesB, List.append_assoc, HLO.out.1]
            exact h.symm)
        have HOP : Hid (OPS wr (.slice (some ⟨bl, ob, none⟩) i cl) lo) := Lib.hid (ops_vo HV.out (fun p hp => ⟨(HE.out p hp).1.1, (HE.out p hp).1.2.rd⟩))
        go_wp2
        refine bodyPost_ret (v := .tuple #[.slice (some ⟨bl, ob, none⟩) i cl, .bool true]) (by simp [results, Try.results16, go_sem]) rfl ⟨.inl ⟨_, lo, rfl, HOP.out, fun p hp => (HE.out p hp).2.2, HC.out⟩, HB.out⟩
      · have HF : Hid (∀ l, ¬ CAN xs l) := Lib.hid (fun l hl => by
          obtain ⟨l2, h1, _, h3⟩ := HLE.out l hl
          rw [Nat.sub_self] at h1
          rw [List.length_eq_zero_iff.1 h1] at h3
          have h5 := congrArg List.length h3
          rw [List.length_drop, HN.out] at h5
          simp [flat] at h5
          omega)
        have j2 : ¬ (a : Int) = n := by omega
        go_wp2
        refine bodyPost_ret (v := .tuple #[.slice none 0 0, .bool false]) (by simp [results, Try.results16, go_sem]) rfl ⟨.inr ⟨rfl, HF.out⟩, HB.out⟩
end Go.Proofs.Ytahggokeelgjdaa
