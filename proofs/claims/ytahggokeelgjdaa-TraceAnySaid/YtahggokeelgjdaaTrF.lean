/- Lists of things: what trace.Bytes writes. -/
import Derived.Test.YtahggokeelgjdaaTrE
namespace Go.Proofs.Ytahggokeelgjdaa
open Go.RowKit
set_option linter.unusedVariables false
set_option linter.unusedSimpArgs false

def TPost (W : World) (l : List OV) (e : Ending) (w' : World) : Prop :=
  (mayB l = true ∧ NPost W (bytesB l) e w') ∨ (mayB l = false ∧ e = .returned (.slice none 0 0) ∧ Below W.heap.size W w')
set_option maxHeartbeats 3200000 in
theorem trBytes (v : Value) (l : List OV) (W : World) (h : OPS W v l) :
    Calls Try.prog 9 #[v] W (TPost W l) := by
  have HO := Lib.hid h
  obtain ⟨A, c, rfl, hl63, _⟩ := h
  by_cases hl5 : l.length ≤ 500
  · have i0 : ¬ (500 : Int) < l.length := by omega
    have hnb : (-9223372036854775808 : Int) ≤ (l.length : Int) ∧ (l.length : Int) ≤ 9223372036854775807 := by omega
    have HNB := Lib.hid hnb
    have HVL : Hid ((vb (zig (l.length : Int))).length ≤ 10) := Lib.hid (vb_len _ (zig_lt _ hnb))
    clear hnb
    have kc := fun (w : World) (C : Array Value) (n c : Nat) => Lib.run_convert_bytes_const (P := Try.prog) w 23 5 C n c Try.underlying23 Try.underlying5
    have HB0 : Hid (BY W.heap.size (W.alloc (.cells #[.int .u8 67, .int .u8 84, .int .u8 49] 5 (3, 4))) (.slice (some ⟨W.heap.size, 0, none⟩) 3 3) [67, 84, 49]) := Lib.hid (by_new3 W 67 84 49 _)
    go_enter Try.func9, Try.ntmps9
    go_wp2_with fail
    clear kc
    refine (appNum W.heap.size _ [67, 84, 49] _ _ HB0.out HNB.out (by decide)).mono ?_
    rintro e w3 ⟨b3, v3, rfl, hb3, hv3, ho3, hn3⟩
    have HV3 : Hid (BY b3 w3 v3 (([67, 84, 49] ++ vb (zig (l.length : Int))) ++ (l.take 0).flatMap fun p => oneB p.o p.d)) := Lib.hid (by simpa using hv3)
    have HW3 : Hid (Below W.heap.size W w3 ∧ W.heap.size ≤ b3 ∧ v3 ≠ .slice none 0 0) := Lib.hid ⟨(alc0 W _).trans (ho3.2.2 _ (Nat.le_refl _) (by simp)), by rcases hb3 with rfl | h; exact Nat.le_refl _; simp at h; omega, hn3⟩
    clear hb3 hv3 ho3 hn3 HB0
    go_wp2_with fail
    go_loopw [3, 16] (fun v3 v16 wr => ∃ (i b' : Nat), i ≤ l.length ∧ v16 = .int .i64 i ∧ Hid (∀ p ∈ l.take i, p.d.length ≤ 4096) ∧ Hid (BY b' wr v3 (([67, 84, 49] ++ vb (zig (l.length : Int))) ++ (l.take i).flatMap fun p => oneB p.o p.d)) ∧ Hid (Below W.heap.size W wr ∧ W.heap.size ≤ b' ∧ v3 ≠ .slice none 0 0)) (fun _ v16 _ => l.length - (intOf v16).toNat)
    case atStart => exact ⟨0, b3, by omega, rfl, Lib.hid (by simp), HV3, HW3⟩
    case round =>
      clear HV3 HW3
      obtain ⟨i, b', hi, rfl, HA, HV, HW⟩ := hrel
      by_cases hlt : i < l.length
      · obtain ⟨p, hp⟩ : ∃ p, l[i]? = some p := ⟨_, List.getElem?_eq_getElem hlt⟩
        have HOr := Lib.hid (HO.out.keep HW.out.1)
        obtain ⟨A2, c2, e2, _, rfl | ⟨b, off, e3, hb, hc⟩⟩ := HOr.out
        · simp at hlt
        · injection e2 with e4 e5 e6
          subst e4
          subst e3
          obtain ⟨⟨r0, r1, r2, r3, r4, r5, r6, r7⟩, hrd, hok⟩ := hc i p hp
          have HRd := Lib.hid hrd
          have HOk := Lib.hid hok
          obtain ⟨A3, c3, e7, hd47⟩ := rd_len hrd
          rw [e7] at r7
          have HDV := Lib.hid e7
          have HP := Lib.hid hp
          have HOks := Lib.hid HOr.out.oks
          have i1 : (i : Int) < l.length := by omega
          clear hc hrd hok e5 e6 e7 hp
          by_cases hdl : p.d.length ≤ 4096
          · have i2 : ¬ (4096 : Int) < p.d.length := by omega
            have h1len := one_len p HOk.out (by omega)
            have hlen : ((([67, 84, 49] : List Nat) ++ vb (zig (l.length : Int))) ++ (l.take i).flatMap fun p => oneB p.o p.d).length + (oneB p.o p.d).length ≤ 140737488355328 := by
              have h5 := ones_len (l.take i) (fun q hq => ⟨HOks.out q (List.mem_of_mem_take hq), HA.out q hq⟩)
              have := HVL.out
              rw [List.length_take] at h5
              rw [List.length_append, List.length_append]
              have h6 : ([67, 84, 49] : List Nat).length = 3 := rfl
              omega
            have h1big : (oneB p.o p.d).length ≤ 140737488351232 := by omega
            have HBIG := Lib.hid (And.intro hlen h1big)
            clear hlen h1len h1big
            go_wp2_with fail
            refine (trOne p.o _ p.d _ (by have h := HRd.out; rw [HDV.out] at h; exact h.keep (alc0 _ _)) HOk.out).mono ?_
            rintro e w4 ⟨bn, vn, rfl, hbn, hvn, hb4, _⟩
            have HR4 : Hid (RD w4 vn (oneB p.o p.d)) := Lib.hid (BY.rd hvn HBIG.out.2)
            have HV4 := Lib.hid (VZ.below (VZ.below HV.out (alc0 wr _)) hb4)
            have HW4 : Hid (Below W.heap.size W w4 ∧ wr.heap.size ≤ w4.heap.size) := Lib.hid ⟨HW.out.1.trans ((thn (alc0 wr _) hb4).mono HW.out.1.size), (thn (alc0 wr _) hb4).size⟩
            have hbig := HBIG.out.1
            clear hbn hvn hb4 r0 r1 r2 r3 r4 r5 r6 r7 HV
            go_wp2_with (at_builtin; refine app_by rfl _ _ rfl b' _ _ rfl HV4.out vn _ rfl HR4.out hbig ?_)
            rintro v5 w5 ⟨b5, hb5, hv5, ho5, hn5⟩
            have HV5 : Hid (BY b5 w5 v5 (([67, 84, 49] ++ vb (zig (l.length : Int))) ++ (l.take (i + 1)).flatMap fun p => oneB p.o p.d)) := Lib.hid (by
              have e : ((l.take (i + 1)).flatMap fun p => oneB p.o p.d) = ((l.take i).flatMap fun p => oneB p.o p.d) ++ oneB p.o p.d := by
                rw [List.take_add_one, HP.out, List.flatMap_append]
                simp
              rw [e]
              have e2 : ([67, 84, 49] ++ vb (zig (l.length : Int))) ++ (((l.take i).flatMap fun p => oneB p.o p.d) ++ oneB p.o p.d) = 67 :: 84 :: 49 :: (vb (zig (l.length : Int)) ++ (((l.take i).flatMap fun p => oneB p.o p.d) ++ oneB p.o p.d)) := by simp
              first
                | exact hv5
                | (rw [e2]; exact hv5)
                | (rw [← List.append_assoc]; exact hv5))
            have HW5 : Hid (Below W.heap.size W w5 ∧ W.heap.size ≤ b5 ∧ v5 ≠ .slice none 0 0) := Lib.hid ⟨HW4.out.1.trans (ho5.2.2 _ HW.out.2.1 HW4.out.1.size), by have := HW4.out.1.size; have := HW.out.2.1; rcases hb5 with rfl | h <;> omega, fun h => HW.out.2.2 (hn5 h)⟩
            have HA5 : Hid (∀ q ∈ l.take (i + 1), q.d.length ≤ 4096) := Lib.hid (fun q hq => by
              rw [List.take_add_one, HP.out] at hq
              rcases List.mem_append.1 hq with h | h
              · exact HA.out q h
              · simp at h; subst h; exact hdl)
            clear hb5 hv5 ho5 hn5 hbig HV4 HW4 HR4
            go_wp2_with fail
            go_roundw
            case rel => exact ⟨i + 1, b5, by omega, by go_num, HA5, HV5, HW5⟩
            case measure => simp [intOf] <;> omega
          · have i2 : (4096 : Int) < p.d.length := by omega
            have HM : Hid (mayB l = false) := Lib.hid (by
              rw [mayB, decide_eq_false_iff_not]
              rintro ⟨_, h⟩
              exact hdl (h p (List.mem_of_getElem? HP.out)))
            have HBl := Lib.hid HW.out.1
            clear HV HW
            go_wp2
            go_ret
            exact .inr ⟨HM.out, rfl, HBl.out.alloc HBl.out.size _⟩
      · obtain rfl : i = l.length := by omega
        have HM : Hid (mayB l = true) := Lib.hid (by
          rw [mayB, decide_eq_true_iff]
          have := HA.out
          rw [List.take_length] at this
          exact ⟨hl5, this⟩)
        go_wp2
        go_ret
        refine .inl ⟨HM.out, b', _, rfl, HW.out.2.1, ?_, HW.out.1, HW.out.2.2⟩
        have := HV.out
        rw [List.take_length] at this
        exact this
  · have i0 : (500 : Int) < l.length := by omega
    go_enter Try.func9, Try.ntmps9
    go_wp2
    go_ret
    refine .inr ⟨?_, rfl, Below.refl _ _⟩
    rw [mayB, decide_eq_false_iff_not]
    rintro ⟨h, _⟩
    exact hl5 h
end Go.Proofs.Ytahggokeelgjdaa
