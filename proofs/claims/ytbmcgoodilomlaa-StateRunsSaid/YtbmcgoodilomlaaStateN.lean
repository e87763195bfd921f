/- Contracts of package state. -/
import Derived.Test.YtbmcgoodilomlaaStateM
import Derived.Test.YtbmcgoodilomlaaRow
import Derived.Test.YtbmcgoodilomlaaInts0
namespace Go.Proofs.Ytbmcgoodilomlaa
open Go.RowKit Go.ChangeMaps Go.MapKept
set_option linter.unusedVariables false
set_option linter.unusedSimpArgs false

theorem nxt_cases (s x : Int) : (nxt s x = 0) ∨ (nxt s x = 1) ∨ (nxt s x = 2) ∨ (nxt s x = 3) := by unfold nxt; (repeat' split) <;> omega
theorem nxt_zero (s x : Int) (h1 : ¬ (s = 1 ∧ x = 1)) (h2 : ¬ (s = 2 ∧ x = 2)) (h3 : ¬ (s = 3 ∧ x = 3)) : nxt s x = 0 := by unfold nxt; rw [if_neg h1, if_neg h2, if_neg h3]
set_option maxHeartbeats 800000 in
theorem next_is (s x : Int) (hs : (Lit.int .i64 s).wf = true) (hx : (Lit.int .i64 x).wf = true) (v r : Int) (hv : nxt s x = v) (hr : (if 0 < v then (0 : Int) else 12) = r) (w : World) :
    Calls Try.prog 19 #[.int .i64 s, .int .i64 x] w fun e w' => e = .returned (.tuple #[.int .i64 v, .int .i64 r]) ∧ Below w.heap.size w w' := by
  have hc := nxt_cases s x
  rw [hv] at hc
  have hcan : canB s x = decide (0 < v) := by unfold canB; rw [hv]
  by_cases h : 0 < v
  · rw [if_pos h] at hr
    subst hr
    have hcan2 : canB s x = true := by rw [hcan]; simpa using h
    have HV := Lib.hid (And.intro hv hcan2)
    clear hv hcan hcan2 hc
    go_enter Try.func19, Try.ntmps19
    go_wp2_with fail
    refine (changes_any _).mono ?_
    rintro e w' ⟨b, rfl, hbase, hm, hb⟩
    have hL := lookC w' b hm s x hs hx
    rw [HV.out.1, HV.out.2] at hL
    have HB := Lib.hid hb
    clear hm hb HV
    go_wp2
    go_ret2
    exact ⟨rfl, HB.out⟩
  · rw [if_neg h] at hr
    subst hr
    obtain rfl : v = 0 := by omega
    have hcan2 : canB s x = false := by rw [hcan]; simp
    have HV := Lib.hid (And.intro hv hcan2)
    clear hv hcan hcan2 hc h
    go_enter Try.func19, Try.ntmps19
    go_wp2_with fail
    refine (changes_any _).mono ?_
    rintro e w' ⟨b, rfl, hbase, hm, hb⟩
    have hL := lookC w' b hm s x hs hx
    rw [HV.out.1, HV.out.2] at hL
    have HB := Lib.hid hb
    clear hm hb HV
    go_wp2
    go_ret2
    exact ⟨rfl, HB.out⟩
theorem can_is (s x : Int) (hs : (Lit.int .i64 s).wf = true) (hx : (Lit.int .i64 x).wf = true) (r : Bool) (hr : decide (0 < nxt s x) = r) (w : World) :
    Calls Try.prog 22 #[.int .i64 s, .int .i64 x] w fun e w' => e = .returned (.bool r) ∧ Below w.heap.size w w' := by
  by_cases h : 0 < nxt s x
  · obtain rfl : r = true := by rw [← hr]; simpa using h
    have HH := Lib.hid h
    clear hr h
    go_enter Try.func22, Try.ntmps22
    go_wp2_with fail
    refine (next_is s x hs hx _ 0 rfl (if_pos HH.out) _).mono ?_
    rintro e w' ⟨rfl, hb⟩
    have HB := Lib.hid hb
    clear hb
    go_wp2
    go_ret
    exact ⟨rfl, HB.out⟩
  · obtain rfl : r = false := by rw [← hr]; simpa using h
    have HH := Lib.hid h
    clear hr h
    go_enter Try.func22, Try.ntmps22
    go_wp2_with fail
    refine (next_is s x hs hx _ 12 rfl (if_neg (by have := HH.out; omega)) _).mono ?_
    rintro e w' ⟨rfl, hb⟩
    have HB := Lib.hid hb
    clear hb
    go_wp2
    go_ret
    exact ⟨rfl, HB.out⟩
theorem name1 (w : World) : Calls Try.prog 20 #[.int .i64 1] w fun e w' => e = .returned (.string ⟨#[102, 114, 101, 101]⟩) ∧ w = w' := by
  go_enter Try.func20, Try.ntmps20
  go_wp2
  go_ret
  exact ⟨rfl, rfl⟩
theorem name2 (w : World) : Calls Try.prog 20 #[.int .i64 2] w fun e w' => e = .returned (.string ⟨#[108, 105, 118, 101]⟩) ∧ w = w' := by
  go_enter Try.func20, Try.ntmps20
  go_wp2
  go_ret
  exact ⟨rfl, rfl⟩
theorem name3 (w : World) : Calls Try.prog 20 #[.int .i64 3] w fun e w' => e = .returned (.string ⟨#[104, 101, 108, 100]⟩) ∧ w = w' := by
  go_enter Try.func20, Try.ntmps20
  go_wp2
  go_ret
  exact ⟨rfl, rfl⟩
theorem name0 (s : Int) (h1 : ¬ s = 1) (h2 : ¬ s = 2) (h3 : ¬ s = 3) (w : World) : Calls Try.prog 20 #[.int .i64 s] w fun e w' => e = .returned (.string ⟨#[]⟩) ∧ w = w' := by
  go_enter Try.func20, Try.ntmps20
  go_wp2
  go_ret
  exact ⟨rfl, rfl⟩
/-- The state behind all that happens, and how much of it did. -/
def runT : Int → List Int → Int
  | s, [] => s
  | s, x :: r => if 0 < nxt s x then runT (nxt s x) r else s
def runN : Int → List Int → Nat
  | s, [] => 0
  | s, x :: r => if 0 < nxt s x then runN (nxt s x) r + 1 else 0
theorem runN_le : ∀ (l : List Int) (s : Int), runN s l ≤ l.length
  | [], _ => Nat.le_refl _
  | x :: r, s => by
    unfold runN
    split
    · have := runN_le r (nxt s x); simp; omega
    · simp
theorem drop_cons (l : List Int) (k : Nat) (h : k < l.length) : l.drop k = l.getD k 0 :: l.drop (k + 1) := by
  rw [List.drop_eq_getElem_cons h]
  simp [h]
set_option maxHeartbeats 1600000 in
theorem run_is (s : Int) (a : Option Addr) (m c : Nat) (l : List Int) (w : World) (h : Ints .i64 w a m l) (hm : m ≤ 1000) (hs : (Lit.int .i64 s).wf = true) (hl : ∀ x ∈ l, (Lit.int .i64 x).wf = true) :
    Calls Try.prog 23 #[.int .i64 s, .slice a m c] w fun e w' => e = .returned (.tuple #[.int .i64 (runT s l), .int .i64 (runN s l)]) ∧ Below w.heap.size w w' := by
  have hlen : l.length = m := h.1
  have HI := Lib.hid h
  have HL := Lib.hid hl
  have HN := Lib.hid hlen
  have hm2 : m ≤ 9223372036854775807 := by omega
  clear h hl hlen
  go_enter Try.func23, Try.ntmps23
  go_wp2_with fail
  go_loopw [0, 12] (fun v0 v12 wr => ∃ (t : Int) (k : Nat), k ≤ m ∧ v0 = .int .i64 t ∧ v12 = .int .i64 k ∧ Hid ((Lit.int .i64 t).wf = true ∧ runT s l = runT t (l.drop k) ∧ runN s l = k + runN t (l.drop k)) ∧ Hid (Ints .i64 wr a m l) ∧ Hid (Below w.heap.size w wr)) (fun _ v12 _ => m - (intOf v12).toNat)
  case atStart => exact ⟨s, 0, by omega, rfl, rfl, Lib.hid ⟨hs, rfl, by simp⟩, HI, Lib.hid (Below.refl _ _)⟩
  case round =>
    obtain ⟨t, k, hk, rfl, rfl, HR, HI2, HB⟩ := hrel
    clear HI
    by_cases hlt : k < m
    · have hcell : wr.cell? ((a.getD ⟨0, 0, none⟩).add k) = some (.int .i64 (l.getD k 0)) := by
        obtain ⟨_, h0 | ⟨b, off, rfl, _, _, hc⟩⟩ := HI2.out
        · omega
        · have hadd : (⟨b, off, none⟩ : Addr).add k = ⟨b, off + k, none⟩ := by unfold Addr.add; split <;> simp_all
          show wr.cell? ((⟨b, off, none⟩ : Addr).add k) = _
          rw [hadd]
          exact hc k hlt
      obtain ⟨ad, rfl⟩ : ∃ ad, a = some ad := by
        obtain ⟨_, h0 | ⟨b, off, rfl, _, _, hc⟩⟩ := HI2.out
        · omega
        · exact ⟨_, rfl⟩
      simp only [Option.getD_some] at hcell
      have hlt2 : (k : Int) < (m : Int) := by omega
      have hxw : (Lit.int .i64 (l.getD k 0)).wf = true := HL.out _ (by rw [List.getD_eq_getElem?_getD, List.getElem?_eq_getElem (by rw [HN.out]; exact hlt)]; simp)
      obtain ⟨x, hx⟩ : ∃ x, l.getD k 0 = x := ⟨_, rfl⟩
      have hdr := drop_cons l k (by rw [HN.out]; exact hlt)
      rw [hx] at hcell hxw hdr
      have HD := Lib.hid hdr
      clear hx hdr
      by_cases hp : 0 < nxt t x
      · have HP := Lib.hid hp
        clear hp
        go_wp2_with fail
        refine (next_is t x HR.out.1 hxw _ 0 rfl (if_pos HP.out) _).mono ?_
        rintro e w2 ⟨rfl, hb⟩
        have HB2 := Lib.hid (thn HB.out hb)
        have HI3 := Lib.hid (HI2.out.below hb)
        clear hb HB HI2 hcell
        have hnw : (Lit.int .i64 (nxt t x)).wf = true := by rcases nxt_cases t x with h | h | h | h <;> rw [h] <;> rfl
        have h1 := HR.out.2.1
        have h2 := HR.out.2.2
        rw [HD.out, runT, if_pos HP.out] at h1
        rw [HD.out, runN, if_pos HP.out] at h2
        have HR2 := Lib.hid (And.intro hnw (And.intro h1 (show runN s l = (k + 1) + runN (nxt t x) (l.drop (k + 1)) by omega)))
        clear h1 h2 hnw HP HR
        go_wp2_with fail
        go_roundw
        case rel => exact ⟨_, k + 1, by omega, rfl, by go_num, HR2, HI3, HB2⟩
        case measure => simp [intOf]; omega
      · have HP := Lib.hid hp
        clear hp
        go_wp2_with fail
        refine (next_is t x HR.out.1 hxw _ 12 rfl (if_neg (by have := HP.out; omega)) _).mono ?_
        rintro e w2 ⟨rfl, hb⟩
        have HB2 := Lib.hid (thn HB.out hb)
        clear hb HB HI2 hcell
        have h1 := HR.out.2.1
        have h2 := HR.out.2.2
        rw [HD.out, runT, if_neg (by have := HP.out; omega)] at h1
        rw [HD.out, runN, if_neg (by have := HP.out; omega)] at h2
        have HR2 := Lib.hid (And.intro h1 h2)
        clear h1 h2 HP HR
        go_wp2
        go_ret2
        exact ⟨by rw [HR2.out.1, HR2.out.2]; rfl, HB2.out⟩
    · obtain rfl : k = m := by omega
      have h1 := HR.out.2.1
      have h2 := HR.out.2.2
      rw [List.drop_of_length_le (by rw [HN.out]; omega)] at h1 h2
      simp only [runT, runN] at h1 h2
      have HR2 := Lib.hid (And.intro h1 h2)
      clear h1 h2 HR HI2
      go_wp2
      go_ret2
      exact ⟨by rw [HR2.out.1, HR2.out.2]; rfl, HB.out⟩
set_option maxHeartbeats 1600000 in
theorem s19awake (w : World) : Calls Try.prog 21 #[] w fun e w' => e = .returned (.bool true) ∧ Below w.heap.size w w' := by
  go_enter Try.func21, Try.ntmps21
  go_wp2_with fail
  refine (run_is 1 (some ⟨w.heap.size, 0, none⟩) 4 4 [1, 2, 3, 1] _ ⟨rfl, .inr ⟨_, 0, rfl, by simp, by omega, fun i hi => by
    have : i = 0 ∨ i = 1 ∨ i = 2 ∨ i = 3 := by omega
    rcases this with rfl | rfl | rfl | rfl <;> simp⟩⟩ (by omega) rfl (by simp; decide)).mono ?_
  rintro e w1 ⟨rfl, hb⟩
  have hr1 : runT 1 [1, 2, 3, 1] = 2 := by decide
  have hr2 : runN 1 [1, 2, 3, 1] = 4 := by decide
  rw [hr1, hr2]
  have HB := Lib.hid (thn (alc0 _ _) hb)
  clear hb hr1 hr2
  go_wp2_with fail
  refine (name2 _).mono ?_
  rintro e w2 ⟨rfl, rfl⟩
  go_wp2_with fail
  refine (can_is 1 2 rfl rfl false (by decide) _).mono ?_
  rintro e w2 ⟨rfl, hb⟩
  have HB2 := Lib.hid (thn HB.out hb)
  clear hb HB
  go_wp2
  go_ret
  exact ⟨rfl, HB2.out⟩
end Go.Proofs.Ytbmcgoodilomlaa
