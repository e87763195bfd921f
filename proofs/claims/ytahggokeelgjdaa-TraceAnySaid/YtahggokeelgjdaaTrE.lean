/- Lists of things: the bytes that the statement's own Bytes and trace.Bytes write. -/
import Derived.Test.YtahggokeelgjdaaTrD
import Derived.Lib.SlBytesConst
namespace Go.Proofs.Ytahggokeelgjdaa
open Go.RowKit
set_option linter.unusedVariables false
set_option linter.unusedSimpArgs false

theorem by_new3 (W : World) (x y z : Nat) (E : TypeId) : BY W.heap.size (W.alloc (.cells #[.int .u8 (x : Int), .int .u8 (y : Int), .int .u8 (z : Int)] E (3, 4))) (.slice (some ⟨W.heap.size, 0, none⟩) 3 3) [x, y, z] := by
  have hh : (W.alloc (.cells #[.int .u8 (x : Int), .int .u8 (y : Int), .int .u8 (z : Int)] E (3, 4))).heap[W.heap.size]? = some (.cells #[.int .u8 (x : Int), .int .u8 (y : Int), .int .u8 (z : Int)] E (3, 4)) := by
    show (W.heap.push _)[W.heap.size]? = _
    simp
  have hc : ∀ j, (W.alloc (.cells #[.int .u8 (x : Int), .int .u8 (y : Int), .int .u8 (z : Int)] E (3, 4))).cell? ⟨W.heap.size, j, none⟩ = (#[Value.int .u8 (x : Int), .int .u8 (y : Int), .int .u8 (z : Int)] : Array Value)[j]? := fun j => cell_of_row _ _ j _ _ _ hh
  refine ⟨_, 3, rfl, rfl, Nat.le_refl _, by omega, u8s_one _, .inr ⟨0, rfl, by simp, fun j u hu => ?_, fun i hi => ?_⟩⟩
  · rw [Nat.zero_add, hc]
    match j with
    | 0 => simp [u8s] at hu; subst hu; rfl
    | 1 => simp [u8s] at hu; subst hu; rfl
    | 2 => simp [u8s] at hu; subst hu; rfl
    | j + 3 => simp [u8s] at hu
  · have hi3 : i = 0 ∨ i = 1 ∨ i = 2 := by omega
    rw [Nat.zero_add, hc]
    rcases hi3 with rfl | rfl | rfl <;> exact ⟨rfl, by unfold World.frozen?; simp only [hh]; rfl⟩
theorem one_len (p : OV) (h : p.o.ok) (hd : p.d.length ≤ 140737488351232) : (oneB p.o p.d).length ≤ 80 + p.d.length := by
  have h1 := vbs_len p.o.l h
  have h2 : p.o.l.length = 7 := rfl
  rw [oneB, List.length_append, List.length_append]
  have h3 : (vb (zig p.d.length)).length ≤ 10 := vb_len _ (zig_lt _ (by omega))
  omega
/-- How long the bytes of some things are at most. -/
theorem ones_len (l : List OV) (h : ∀ p ∈ l, p.o.ok ∧ p.d.length ≤ 4096) : (l.flatMap fun p => oneB p.o p.d).length ≤ 4176 * l.length := by
  induction l with
  | nil => simp
  | cons p r ih =>
    have h1 := ih (fun q hq => h q (by simp [hq]))
    have h2 := h p (by simp)
    have h3 := one_len p h2.1 (by omega)
    rw [List.flatMap_cons, List.length_append, List.length_cons]
    omega
theorem OPS.oks {W : World} {v : Value} {l : List OV} (h : OPS W v l) : ∀ p ∈ l, p.o.ok := by
  obtain ⟨A, c, e, _, rfl | ⟨b, off, e2, h3, h4⟩⟩ := h
  · simp
  · intro p hp
    obtain ⟨i, hi, rfl⟩ := List.mem_iff_getElem.1 hp
    exact (h4 i _ (List.getElem?_eq_getElem hi)).2.2
set_option maxHeartbeats 3200000 in
theorem refBytes (v : Value) (l : List OV) (W : World) (h : OPS W v l) :
    Calls Try.prog 10 #[v] W (NPost W (if mayB l then bytesB l else [])) := by
  have HO := Lib.hid h
  obtain ⟨A, c, rfl, hl63, _⟩ := h
  obtain ⟨m, hm⟩ : ∃ m, mayB l = m := ⟨_, rfl⟩
  rw [hm]
  have HM := Lib.hid hm
  clear hm
  cases m with
  | false =>
    simp only [Bool.false_eq_true, if_false]
    go_enter Try.func10, Try.ntmps10
    go_wp2_with fail
    refine (refMay _ l W HO.out).mono ?_
    rintro e w1 ⟨rfl, rfl⟩
    rw [HM.out]
    go_wp2
    go_ret
    exact ⟨W.heap.size, _, rfl, Nat.le_refl _, vz_made 1 W _, alc0 _ _, by simp⟩
  | true =>
    simp only [if_true]
    have hmm : l.length ≤ 500 ∧ ∀ p ∈ l, p.d.length ≤ 4096 := by have := HM.out; rwa [mayB, decide_eq_true_iff] at this
    have HMM := Lib.hid hmm
    have hl5 : l.length ≤ 500 := hmm.1
    clear hmm
    have hnb : (-9223372036854775808 : Int) ≤ (l.length : Int) ∧ (l.length : Int) ≤ 9223372036854775807 := by omega
    have HNB := Lib.hid hnb
    have HVL : Hid ((vb (zig (l.length : Int))).length ≤ 10) := Lib.hid (vb_len _ (zig_lt _ hnb))
    clear hnb
    have kc := fun (w : World) (C : Array Value) (n c : Nat) => Lib.run_convert_bytes_const (P := Try.prog) w 23 5 C n c Try.underlying23 Try.underlying5
    go_enter Try.func10, Try.ntmps10
    go_wp2_with fail
    refine (refMay _ l W HO.out).mono ?_
    rintro e w1 ⟨rfl, rfl⟩
    rw [HM.out]
    have HB0 : Hid (BY W.heap.size (W.alloc (.cells #[.int .u8 67, .int .u8 84, .int .u8 49] 5 (3, 4))) (.slice (some ⟨W.heap.size, 0, none⟩) 3 3) [67, 84, 49]) := Lib.hid (by_new3 W 67 84 49 _)
    go_wp2_with fail
    clear kc
    refine (refNum _ _ HNB.out).mono ?_
    rintro e w2 ⟨bn, vn, rfl, hbn, hvn, hb2, _⟩
    have HR2 : Hid (RD w2 vn (vb (zig (l.length : Int)))) := Lib.hid (BY.rd hvn (by have := HVL.out; omega))
    have HV2 : Hid (BY W.heap.size w2 (.slice (some ⟨W.heap.size, 0, none⟩) 3 3) [67, 84, 49]) := Lib.hid (VZ.below HB0.out hb2)
    have HW2 : Hid (Below W.heap.size W w2) := Lib.hid (thn (alc0 _ _) hb2)
    clear hbn hvn hb2 HB0
    have hbig : ([67, 84, 49] : List Nat).length + (vb (zig (l.length : Int))).length ≤ 140737488355328 := by have := HVL.out; simp; omega
    go_wp2_with (at_builtin; refine app_by rfl _ _ rfl W.heap.size _ [67, 84, 49] rfl HV2.out vn _ rfl HR2.out hbig ?_)
    rintro v3 w3 ⟨b3, hb3, hv3, ho3, hn3⟩
    have HV3 : Hid (BY b3 w3 v3 (([67, 84, 49] ++ vb (zig (l.length : Int))) ++ (l.take 0).flatMap fun p => oneB p.o p.d)) := Lib.hid (by simpa using hv3)
    have HW3 : Hid (Below W.heap.size W w3 ∧ W.heap.size ≤ b3 ∧ v3 ≠ .slice none 0 0) := Lib.hid ⟨HW2.out.trans (ho3.2.2 _ (Nat.le_refl _) HW2.out.size), by have := HW2.out.size; rcases hb3 with rfl | h <;> omega, fun h => by have := hn3 h; simp at this⟩
    clear hb3 hv3 ho3 hn3 hbig HV2 HW2 HR2
    go_wp2_with fail
    go_loopw [3, 4] (fun v3 v4 wr => ∃ (i b' : Nat), i ≤ l.length ∧ v4 = .int .i64 i ∧ Hid (BY b' wr v3 (([67, 84, 49] ++ vb (zig (l.length : Int))) ++ (l.take i).flatMap fun p => oneB p.o p.d)) ∧ Hid (Below W.heap.size W wr ∧ W.heap.size ≤ b' ∧ v3 ≠ .slice none 0 0)) (fun _ v4 _ => l.length - (intOf v4).toNat)
    case atStart => exact ⟨0, b3, by omega, rfl, HV3, HW3⟩
    case round =>
      clear HV3 HW3
      obtain ⟨i, b', hi, rfl, HV, HW⟩ := hrel
      by_cases hlt : i < l.length
      · obtain ⟨p, hp⟩ : ∃ p, l[i]? = some p := ⟨_, List.getElem?_eq_getElem hlt⟩
        have HOr := Lib.hid (HO.out.keep HW.out.1)
        obtain ⟨A2, c2, e2, _, rfl | ⟨b, off, e3, hb, hc⟩⟩ := HOr.out
        · simp at hlt
        · injection e2 with e4 e5 e6
          subst e4
          subst e3
          obtain ⟨⟨r0, r1, r2, r3, r4, r5, r6, r7⟩, hrd, hok⟩ := hc i p hp
          have HRd := Lib.hid hrd
          have HOk := Lib.hid hok
          have hpd := HMM.out.2 p (List.mem_of_getElem? hp)
          have h1len := one_len p hok (by omega)
          have hlen : ((([67, 84, 49] : List Nat) ++ vb (zig (l.length : Int))) ++ (l.take i).flatMap fun p => oneB p.o p.d).length + (oneB p.o p.d).length ≤ 140737488355328 := by
            have h5 := ones_len (l.take i) (fun q hq => ⟨HOr.out.oks q (List.mem_of_mem_take hq), HMM.out.2 q (List.mem_of_mem_take hq)⟩)
            have := HVL.out
            rw [List.length_take] at h5
            rw [List.length_append, List.length_append]
            have h6 : ([67, 84, 49] : List Nat).length = 3 := rfl
            omega
          have h1big : (oneB p.o p.d).length ≤ 140737488351232 := by omega
          have HBIG := Lib.hid (And.intro hlen h1big)
          have i1 : (i : Int) < l.length := by omega
          have HP := Lib.hid hp
          clear hc hrd hok hlen h1len h1big e5 e6 hp hpd
          go_wp2_with fail
          refine (refOne p.o p.dv p.d wr HRd.out HOk.out).mono ?_
          rintro e w4 ⟨bn, vn, rfl, hbn, hvn, hb4, _⟩
          have HR4 : Hid (RD w4 vn (oneB p.o p.d)) := Lib.hid (BY.rd hvn HBIG.out.2)
          have HV4 := Lib.hid (VZ.below HV.out hb4)
          have HW4 : Hid (Below W.heap.size W w4) := Lib.hid (HW.out.1.trans (hb4.mono HW.out.1.size))
          have hbig := HBIG.out.1
          clear hbn hvn hb4 r0 r1 r2 r3 r4 r5 r6 r7 HV
          go_wp2_with (at_builtin; refine app_by rfl _ _ rfl b' _ _ rfl HV4.out vn _ rfl HR4.out hbig ?_)
          rintro v5 w5 ⟨b5, hb5, hv5, ho5, hn5⟩
          have HV5 : Hid (BY b5 w5 v5 (([67, 84, 49] ++ vb (zig (l.length : Int))) ++ (l.take (i + 1)).flatMap fun p => oneB p.o p.d)) := Lib.hid (by
            have e : ((l.take (i + 1)).flatMap fun p => oneB p.o p.d) = ((l.take i).flatMap fun p => oneB p.o p.d) ++ oneB p.o p.d := by
              rw [List.take_add_one, HP.out, List.flatMap_append]
              simp
            rw [e]
            have e2 : ([67, 84, 49] ++ vb (zig (l.length : Int))) ++ (((l.take i).flatMap fun p => oneB p.o p.d) ++ oneB p.o p.d) = 67 :: 84 :: 49 :: (vb (zig (l.length : Int)) ++ (((l.take i).flatMap fun p => oneB p.o p.d) ++ oneB p.o p.d)) := by simp
            first
              | exact hv5
              | (rw [e2]; exact hv5)
              | (rw [← List.append_assoc]; exact hv5))
          have HW5 : Hid (Below W.heap.size W w5 ∧ W.heap.size ≤ b5 ∧ v5 ≠ .slice none 0 0) := Lib.hid ⟨HW4.out.trans (ho5.2.2 _ HW.out.2.1 HW4.out.size), by have := HW4.out.size; have := HW.out.2.1; rcases hb5 with rfl | h <;> omega, fun h => HW.out.2.2 (hn5 h)⟩
          clear hb5 hv5 ho5 hn5 hbig HV4 HW4 HR4
          go_wp2_with fail
          go_roundw
          case rel => exact ⟨i + 1, b5, by omega, by go_num, HV5, HW5⟩
          case measure => simp [intOf] <;> omega
      · obtain rfl : i = l.length := by omega
        go_wp2
        go_ret
        refine ⟨b', _, rfl, HW.out.2.1, ?_, HW.out.1, HW.out.2.2⟩
        have := HV.out
        rw [List.take_length] at this
        exact this
end Go.Proofs.Ytahggokeelgjdaa
