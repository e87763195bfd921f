/- The walk of PickNext. -/
import Derived.Test.YtlajhhecipabaabPickW
namespace Go.Proofs.Ytlajhhecipabaab
open Go.RowKit
set_option linter.unusedVariables false

/-- The i-th tag behind another one, in a circle of fifteen. -/
def fI (from_ : Int) (i : Int) : Int := if from_ + i > 15 then from_ + i - 15 else from_ + i
/-- Of the last r of the fifteen places behind it the first whose tag is none of zs; 0. -/
def vI (zs : List Int) (from_ : Int) : Nat → Int
  | 0 => 0
  | r + 1 => if fI from_ (15 - r) ∈ zs then vI zs from_ r else fI from_ (15 - r)
def clipI (t : Int) : Int := if t < 0 then 0 else if 15 < t then 15 else t

theorem fI_bd {f : Int} (f0 : 0 ≤ f ∧ f ≤ 15) {i : Int} (h : 1 ≤ i ∧ i ≤ 15) : 1 ≤ fI f i ∧ fI f i ≤ 15 := by unfold fI; split <;> omega
theorem fI_first {f : Int} (f0 : 0 ≤ f ∧ f ≤ 15) : f % 15 + 1 = fI f 1 := by unfold fI; split <;> omega
theorem fI_next {f : Int} (f0 : 0 ≤ f ∧ f ≤ 15) {i : Int} (h : 1 ≤ i ∧ i ≤ 14) : fI f i % 15 + 1 = fI f (i + 1) := by unfold fI; split <;> split <;> omega
theorem vI_at {zs : List Int} {f : Int} {k : Nat} (h : k < 15) : vI zs f (15 - k) = if fI f (k + 1) ∈ zs then vI zs f (15 - (k + 1)) else fI f (k + 1) := by
  obtain ⟨r, hr⟩ : ∃ r, 15 - k = r + 1 := ⟨14 - k, by omega⟩
  have e : (15 : Int) - (r : Int) = (k : Int) + 1 := by omega
  rw [hr, vI, e, show 15 - (k + 1) = r from by omega]

set_option maxHeartbeats 800000 in
theorem next_from (t f : Int) (a : Option Addr) (len cap : Nat) (zs : List Int) (w : World) (h : Ints .i64 w a len zs) (hf : clipI t = f) :
    Calls Try.prog 9 #[.int .i64 t, .slice a len cap] w fun e w' => e = .returned (.int .i64 (vI zs f 15)) ∧ w = w' := by
  have HI := Lib.hid h; clear h
  have f0 : 0 ≤ f ∧ f ≤ 15 := by rw [← hf, clipI]; split <;> (try split) <;> omega
  have hc : (t < 0 ∧ f = 0) ∨ (15 < t ∧ f = 15) ∨ (0 ≤ t ∧ t ≤ 15 ∧ f = t) := by
    rw [clipI] at hf
    split at hf
    · left; exact ⟨by assumption, hf.symm⟩
    · split at hf
      · right; left; exact ⟨by assumption, hf.symm⟩
      · right; right; exact ⟨by omega, by omega, hf.symm⟩
  clear hf
  have first := fI_first f0
  have nxt : ∀ i : Int, 1 ≤ i → i ≤ 14 → fI f i % 15 + 1 = fI f (i + 1) := fun i h1 h2 => fI_next f0 ⟨h1, h2⟩
  have bd : ∀ i : Int, 1 ≤ i → i ≤ 15 → 1 ≤ fI f i ∧ fI f i ≤ 15 := fun i h1 h2 => fI_bd f0 ⟨h1, h2⟩
  have at_ : ∀ k : Nat, k < 15 → vI zs f (15 - k) = if fI f (k + 1) ∈ zs then vI zs f (15 - (k + 1)) else fI f (k + 1) := fun k hk => vI_at hk
  generalize fI f = F at *
  have v0 : vI zs f 0 = 0 := rfl
  generalize vI zs f = V at *
  have FN := Lib.hid nxt; clear nxt
  have FB := Lib.hid bd; clear bd
  have FA := Lib.hid at_; clear at_
  have FF := Lib.hid first; clear first
  have V0 := Lib.hid v0; clear v0
  go_enter Try.func9, Try.ntmps9
  rcases hc with ⟨h1, rfl⟩ | ⟨h1, rfl⟩ | ⟨h1, h2, rfl⟩
  all_goals
    go_wp2_with fail
    go_loop [0, 8] (fun t i => ∃ k : Nat, ∃ x : Int, k ≤ 15 ∧ i = .int .i64 k ∧ t = .int .i64 x ∧ 0 ≤ x ∧ x ≤ 15 ∧ (k < 15 → x % 15 + 1 = F (k + 1)) ∧ V 15 = V (15 - k)) (fun _ i => 15 - (intOf i).toNat)
    case atStart => exact ⟨0, _, by omega, rfl, rfl, by omega, by omega, fun _ => FF.out, rfl⟩
    case round =>
      obtain ⟨k, x, hk, rfl, rfl, x0, x1, hx, hr⟩ := hrel
      by_cases hlt : k < 15
      · have hx := hx hlt
        have ha := FA.out k hlt
        have hb := FB.out (k + 1) (by omega) (by omega)
        have hn : k + 1 < 15 → F (k + 1) % 15 + 1 = F (((k + 1 : Nat) : Int) + 1) := fun h => FN.out (k + 1) (by omega) (by omega)
        have HN := Lib.hid hn; clear hn
        generalize F ((k : Int) + 1) = y at *
        by_cases hm : y ∈ zs
        · rw [if_pos hm] at ha
          rw [ha] at hr
          have HR := Lib.hid hr; clear hr ha
          have HM := Lib.hid hm; clear hm
          go_wp2_with (go_at_call 18; refine (contains_is true _ _ _ _ _ _ HI.out (by simpa using HM.out)).mono ?_; rintro e w' ⟨rfl, rfl⟩)
          refine ⟨⟨k + 1, y, by omega, by go_num, rfl, by omega, by omega, HN.out, HR.out⟩, by simp [intOf]; omega⟩
        · rw [if_neg hm] at ha
          rw [ha] at hr
          have HR := Lib.hid hr; clear hr ha
          have HM := Lib.hid hm; clear hm
          go_wp2_with (go_at_call 18; refine (contains_is false _ _ _ _ _ _ HI.out (by simpa using HM.out)).mono ?_; rintro e w' ⟨rfl, rfl⟩)
          go_ret
          exact ⟨ret_int HR.out.symm, rfl⟩
      · obtain rfl : k = 15 := by omega
        clear hx
        have HR := Lib.hid hr; clear hr
        go_wp2
        go_ret
        exact ⟨ret_int (by rw [HR.out]; exact V0.out.symm), rfl⟩

theorem none_any (t : Int) (a : Option Addr) (len cap : Nat) (zs : List Int) (w : World) (h : Ints .i64 w a len zs) :
    Calls Try.prog 7 #[.int .i64 t, .slice a len cap] w fun e w' => e = .returned (.bool (!decide (t ∈ zs))) ∧ w = w' := by
  obtain ⟨hl, h⟩ := h
  rcases h with h | ⟨b, off, rfl, hlt, hm, hc⟩
  · subst h
    obtain rfl : zs = [] := List.length_eq_zero_iff.1 hl
    go_enter Try.func7, Try.ntmps7
    go_wp2_with fail
    go_loop [5] (fun i => i = .int .i64 0) (fun _ => 0)
    case atStart => rfl
    case round =>
      subst hrel
      go_wp2
      go_ret
      exact ⟨rfl, rfl⟩
  · clear hlt
    have HL := Lib.hid hl; clear hl
    go_enter Try.func7, Try.ntmps7
    go_wp2_with fail
    go_loop [5] (fun i => ∃ k : Nat, k ≤ len ∧ i = .int .i64 k ∧ (t ∉ zs ↔ t ∉ zs.drop k)) (fun i => len - (intOf i).toNat)
    case atStart => exact ⟨0, by omega, rfl, Iff.rfl⟩
    case round =>
      obtain ⟨k, hk, rfl, hf⟩ := hrel
      by_cases hlt : k < len
      · have hck := hc k hlt
        clear hc
        rw [idx_drop (by have := HL.out; omega)] at hf
        generalize zs.getD k 0 = x at *
        by_cases he : x = t
        · have hf2 : (!decide (t ∈ zs)) = false := by
            have : ¬ (t ∉ zs) := by rw [hf]; simp [he]
            simpa using this
          clear hf
          have HF := Lib.hid hf2; clear hf2
          have he2 : (x == t) = true := by simpa using he
          clear he
          go_wp2
          go_ret
          exact ⟨ret_bool HF.out.symm, rfl⟩
        · have hf2 : t ∉ zs ↔ t ∉ zs.drop (k + 1) := by rw [hf]; simp [Ne.symm he]
          clear hf
          have HF := Lib.hid hf2; clear hf2
          have he2 : (x == t) = false := by simpa using he
          clear he
          go_wp2
          exact ⟨⟨k + 1, by omega, by go_num, HF.out⟩, by simp [intOf]; omega⟩
      · obtain rfl : k = len := by omega
        clear hc
        have hf2 : (!decide (t ∈ zs)) = true := by
          have : t ∉ zs := by rw [hf, List.drop_of_length_le (by have := HL.out; omega)]; simp
          simpa using this
        clear hf
        have HF := Lib.hid hf2; clear hf2
        go_wp2
        go_ret
        exact ⟨ret_bool HF.out.symm, rfl⟩
theorem none_is (r : Bool) (t : Int) (a : Option Addr) (len cap : Nat) (zs : List Int) (w : World) (h : Ints .i64 w a len zs) (hr : (!decide (t ∈ zs)) = r) :
    Calls Try.prog 7 #[.int .i64 t, .slice a len cap] w fun e w' => e = .returned (.bool r) ∧ w = w' := by
  subst hr; exact none_any t a len cap zs w h

/-- What the law makes of the tags that it must not be. -/
def xL (zs : List Int) : List Int := zs.map fun z => z % 32 - 4
theorem xL_snoc {zs : List Int} {k : Nat} (h : k < zs.length) : xL (zs.take (k + 1)) = xL (zs.take k) ++ [zs.getD k 0 % 32 - 4] := by
  unfold xL
  rw [List.take_succ_eq_append_getElem h, List.map_append]
  simp only [List.map_cons, List.map_nil, List.getD, List.getElem?_eq_getElem h, Option.getD_some]

/-- What the second loop comes to, whatever the first one made. -/
theorem clip_cases (t : Int) : (t < 0 ∧ clipI t = 0) ∨ (15 < t ∧ clipI t = 15) ∨ (0 ≤ t ∧ t ≤ 15 ∧ clipI t = t) := by
  unfold clipI
  split
  · left; exact ⟨by assumption, rfl⟩
  · split
    · right; left; exact ⟨by assumption, rfl⟩
    · right; right; exact ⟨by omega, by omega, rfl⟩
theorem vI_in (zs : List Int) (f : Int) (r : Nat) (t : Int) (hm : (!decide (t ∈ zs)) = false) (ht : fI f (15 - r) = t) : vI zs f r = vI zs f (r + 1) := by
  rw [vI, ht, if_pos (by simpa using hm)]
theorem vI_out (zs : List Int) (f : Int) (r : Nat) (t : Int) (hm : (!decide (t ∈ zs)) = true) (ht : fI f (15 - r) = t) : t = vI zs f (r + 1) := by
  rw [vI, ht, if_neg (by simpa using hm)]

set_option maxHeartbeats 3200000 in
theorem walkPickNext (a0 : Int) (a1 : Option Addr) (len1 cap1 : Nat) (z1 : List Int) (w : World) (w0 : (Lit.int .i64 a0).wf = true) (w1 : IsRow .i64 w a1 len1 cap1 z1) :
    Calls Try.prog 3 #[.int .i64 a0, .slice a1 len1 cap1] w fun e w' => e = .returned (.bool true) ∧ Below w.heap.size w w' := by
  obtain ⟨i0, hi, hz0, hz1, hz2⟩ := info_parts infoInt
  have HI := Lib.hid w1.ints
  clear w1
  generalize z1.take len1 = zs at *
  have ba := bounds_i64 w0
  clear w0
  obtain ⟨n, hn1, hn2, hn3⟩ : ∃ n : Nat, n ≤ len1 ∧ n ≤ 20 ∧ (n < len1 → n = 20) := ⟨min len1 20, by omega, by omega, by omega⟩
  have hlen : zs.length = len1 := HI.out.1
  have HLen := Lib.hid hlen; clear hlen
  go_enter Try.func3, Try.ntmps3
  go_wp2_with fail
  go_loopw [5, 6] (fun v i wr => ∃ k : Nat, k ≤ n ∧ i = .int .i64 k ∧ wr.ownsRow w.heap.size 3 1 v k ((xL (zs.take k)).map (Value.int .i64)) ∧ Below w.heap.size w wr) (fun _ i _ => n - (intOf i).toNat)
  case atStart => exact ⟨0, by omega, rfl, World.ownsRow_made w #[] 0 (Nat.le_refl _) (by unfold maxLen; omega) (by simp), alc0 _ _⟩
  case round =>
    obtain ⟨k, hk, rfl, hown, hbel⟩ := hrel
    have hbs := hbel.size
    by_cases hlt : k < n
    · obtain ⟨_, hin⟩ := HI.out.below hbel
      rcases hin with h0 | ⟨b, off, rfl, hbl, hmx, hc⟩
      · exfalso; omega
      · have hck := hc k (by omega)
        have hsn := xL_snoc (zs := zs) (k := k) (by have := HLen.out; omega)
        have ea := and31 (zs.getD k 0)
        have r0 : 0 ≤ zs.getD k 0 % 32 := Int.emod_nonneg _ (by decide)
        have r1 : zs.getD k 0 % 32 < 32 := Int.emod_lt_of_pos _ (by decide)
        clear hc
        generalize zs.getD k 0 = x at *
        have HS := Lib.hid hsn; clear hsn
        have l1 : (k : Int) < len1 := by omega
        have l2 : (k : Int) < 20 := by omega
        go_wp2_with (at_builtin; refine wpList_append_own _ rfl _ _ 22 rfl w.heap.size 3 i0 (.int .i64 0) 1 8 Try.underlying22 hi hz0 hz1 hz2 rfl (by decide) _ _ _ rfl (hown.alloc _) ⟨wr.heap.size, 0, none⟩ 1 1 [.int .i64 (x % 32 - 4)] rfl rfl ?c1 ?c2 ?c3 ?c4 ?c5 ?_)
        case c1 => exact cell_one_new _ _ _
        case c2 => simp [Value.oneCell']
        case c3 => unfold maxLen; omega
        case c4 => omega
        case c5 => simp; omega
        intro v' w2 hown1 hgrow _
        have hb1 : Below w.heap.size w w2 := (hbel.alloc hbs _).grown hgrow (by simp; omega) (fun j hj => (hown.lt j hj).1)
        clear hgrow hown
        go_wp2
        go_roundw
        case rel => exact ⟨k + 1, by omega, by go_num, by rw [HS.out]; simpa using hown1, hb1⟩
        case measure => simp [intOf]; omega
    · obtain rfl : k = n := by omega
      obtain ⟨a, cap, rfl, hx⟩ := ints_of_row hown
      clear hown
      generalize xL (zs.take k) = X at *
      have HX := Lib.hid hx; clear hx
      have hstop : ¬ ((k : Int) < len1) ∨ ((k : Int) < len1 ∧ ¬ ((k : Int) < 20)) := by omega
      have hvl := vI_in X (clipI a0)
      have hvm := vI_out X (clipI a0)
      have hv0 : vI X (clipI a0) 0 = 0 := rfl
      have hnx := fun (W : World) (h : Ints .i64 W a k X) => next_from a0 (clipI a0) a k cap X W h rfl
      have hcc := clip_cases a0
      have hfd : ∀ i, fI (clipI a0) i = if clipI a0 + i > 15 then clipI a0 + i - 15 else clipI a0 + i := fun _ => rfl
      generalize clipI a0 = f at *
      generalize vI X f = V at *
      have HV := Lib.hid hvl; clear hvl
      have HVM := Lib.hid hvm; clear hvm
      have HV0 := Lib.hid hv0; clear hv0
      have HNX := Lib.hid hnx; clear hnx
      have HFD := Lib.hid hfd; clear hfd
      have HCC := Lib.hid hcc; clear hcc
      have f0 : 0 ≤ f ∧ f ≤ 15 := by rcases HCC.out with ⟨_, e⟩ | ⟨_, e⟩ | ⟨_, _, e⟩ <;> omega
      rcases hstop with hs | ⟨hs, hs2⟩
      all_goals
        rcases HCC.out with ⟨c1, rfl⟩ | ⟨c1, rfl⟩ | ⟨c1, c2, rfl⟩
        all_goals
          clear HCC
          go_wp2_with fail
          go_loop [8, 9] (fun want i => ∃ r : Nat, r ≤ 15 ∧ i = .int .i64 (15 - (r : Int)) ∧ want = .int .i64 (V r)) (fun _ i => (intOf i).toNat)
          case atStart => exact ⟨0, by omega, rfl, by rw [HV0.out]⟩
          case round =>
            obtain ⟨r, hr, rfl, rfl⟩ := hrel
            by_cases hlt : r < 15
            · go_wp2_with (go_at_call 7; refine (none_any _ _ _ _ _ _ HX.out).mono ?_; rintro e w' ⟨rfl, rfl⟩)
              all_goals
                refine ⟨⟨r + 1, by omega, by go_num, congrArg (Value.int .i64) ?_⟩, by simp [intOf]; omega⟩
              all_goals
                first
                | exact HVM.out r _ (by assumption) (by rw [HFD.out]; split <;> omega)
                | exact HV.out r _ (by assumption) (by rw [HFD.out]; split <;> omega)
            · obtain rfl : r = 15 := by omega
              go_wp2_with (first | (go_at_call 8; refine (pawake_any _).mono ?_; rintro e v2 ⟨rfl, hb2⟩) | (go_at_call 9; refine (HNX.out _ (HX.out.below (by assumption))).mono ?_; rintro e w' ⟨rfl, rfl⟩))
              go_ret
              exact ⟨ret_bool (by simp), thn hbel hb2⟩
end Go.Proofs.Ytlajhhecipabaab
