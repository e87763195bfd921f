/- Contracts of package gaps: List, Find, Widest. -/
import Derived.Test.YtjblgamngnnccaaDoorGapA
import Derived.Deep.LoopGhost
namespace Go.Proofs.YtjblgamngnnccaaDoor
open Go.RowKit
set_option linter.unusedVariables false
set_option linter.unusedSimpArgs false

/-- One number more behind the gaps so far. -/
def gstep (F : Int) (l : List Ar) (x : Int) : List Ar :=
  match l.getLast? with
  | some p => if p.1 + p.2 = F + x then l.dropLast ++ [(p.1, p.2 + 1)] else l ++ [(F + x, 1)]
  | none => [(F + x, 1)]
def runs (F : Int) (xs : List Int) : List Ar := xs.foldl (gstep F) []
theorem runs_snoc (F : Int) (xs : List Int) (x : Int) : runs F (xs ++ [x]) = gstep F (runs F xs) x := by simp [runs]
theorem gstep_bd {F N x : Int} {l : List Ar} (hx : 0 ≤ x ∧ x < N) (h : ∀ r ∈ l, F ≤ r.1 ∧ 1 ≤ r.2 ∧ r.1 + r.2 ≤ F + N) : ∀ r ∈ gstep F l x, F ≤ r.1 ∧ 1 ≤ r.2 ∧ r.1 + r.2 ≤ F + N := by
  intro r hr
  unfold gstep at hr
  split at hr
  · rename_i p hp
    have hpl := h p (List.mem_of_getLast? hp)
    split at hr
    · rcases List.mem_append.1 hr with h1 | h1
      · exact h r ((List.dropLast_sublist l).subset h1)
      · simp at h1; subst h1; simp; omega
    · rcases List.mem_append.1 hr with h1 | h1
      · exact h r h1
      · simp at h1; subst h1; simp; omega
  · simp at hr; subst hr; simp; omega
theorem runs_bd (F N : Int) (xs : List Int) (h : ∀ x ∈ xs, 0 ≤ x ∧ x < N) : ∀ r ∈ runs F xs, F ≤ r.1 ∧ 1 ≤ r.2 ∧ r.1 + r.2 ≤ F + N := by
  suffices hh : ∀ (ys : List Int) (l : List Ar), (∀ x ∈ ys, 0 ≤ x ∧ x < N) → (∀ r ∈ l, F ≤ r.1 ∧ 1 ≤ r.2 ∧ r.1 + r.2 ≤ F + N) → ∀ r ∈ ys.foldl (gstep F) l, F ≤ r.1 ∧ 1 ≤ r.2 ∧ r.1 + r.2 ≤ F + N from hh xs [] h (by simp)
  intro ys
  induction ys with
  | nil => intro l _ hl; exact hl
  | cons y ys ih => intro l hy hl; exact ih (gstep F l y) (fun x hx => hy x (by simp [hx])) (gstep_bd (hy y (by simp)) hl)
theorem gstep_len (F : Int) (l : List Ar) (x : Int) : (gstep F l x).length ≤ l.length + 1 := by
  unfold gstep
  split
  · split <;> simp
  · simp
theorem runs_len (F : Int) (xs : List Int) : (runs F xs).length ≤ xs.length := by
  suffices hh : ∀ (ys : List Int) (l : List Ar), (ys.foldl (gstep F) l).length ≤ l.length + ys.length from by simpa [runs] using hh xs []
  intro ys
  induction ys with
  | nil => intro l; simp
  | cons y ys ih => intro l; have := ih (gstep F l y); have := gstep_len F l y; simp; omega
/-- The last one of a row is made longer. -/
theorem va_last {b off c : Nat} {W : World} {l : List Ar} {p : Ar} {y : Int} (h : VA b W (.slice (some ⟨b, off, none⟩) (l.length + 1) c) (l ++ [p])) : VA b (W.setCell ⟨b, off + l.length * 2 + 1, none⟩ (.int .i64 y)) (.slice (some ⟨b, off, none⟩) (l.length + 1) c) (l ++ [(p.1, y)]) := by
  obtain ⟨A, c', e, h1, h2, h3, h4, ⟨h5, _⟩ | ⟨off', e1, hl, hc, hsp⟩⟩ := h
  · injection e with e2; rw [h5] at e2; cases e2
  · injection e with e2 e3 e4
    subst e4
    rw [e1] at e2
    injection e2 with e2
    injection e2 with _ e5
    subst e5
    have hlen : (l.flatMap enc2).length = l.length * 2 := flat_len enc2 2 enc2_len l
    simp only [List.length_append, List.length_cons, List.length_nil, Nat.zero_add] at h2 h1
    refine ⟨_, _, by simp, by simp [hlen, enc2]; omega, by simpa using h2, h3, enc2_one _, .inr ⟨off, rfl, by rw [v_size_set]; exact hl, fun j u hu => ?_, fun i hi => ⟨?_, by simpa using (hsp i hi).2⟩⟩⟩
    · by_cases e : j = l.length * 2 + 1
      · subst e
        have hh : u = .int .i64 y := by
          rw [List.flatMap_append, List.getElem?_append_right (by rw [hlen]; omega), hlen, show l.length * 2 + 1 - l.length * 2 = 1 by omega] at hu
          simpa [enc2] using hu.symm
        subst hh
        have := (hsp (l.length * 2 + 1) (by omega)).1
        obtain ⟨v, hv⟩ := Option.isSome_iff_exists.1 this
        rw [← Nat.add_assoc] at hv
        rw [← Nat.add_assoc]
        exact World.cell?_setCell_same _ _ _ hv
      · rw [World.cell?_setCell_other _ _ _ _ (by intro x; injection x with _ x; omega)]
        refine hc j u ?_
        rw [List.flatMap_append] at hu ⊢
        by_cases hj : j < l.length * 2
        · rw [List.getElem?_append_left (by rw [hlen]; exact hj)] at hu ⊢
          exact hu
        · rw [List.getElem?_append_right (by rw [hlen]; omega), hlen] at hu ⊢
          have hjl := (List.getElem?_eq_some_iff.1 hu).1
          simp [enc2] at hjl
          have hj0 : j - l.length * 2 = 0 := by omega
          rw [hj0] at hu ⊢
          simpa [enc2] using hu
    · exact World.isSome_setCells b [.int .i64 y] (off + l.length * 2 + 1) W ⟨b, off + i, none⟩ (hsp i hi).1
def GList (W : World) (ms : List Ar) (e : Ending) (w' : World) : Prop := ∃ b v, e = .returned v ∧ W.heap.size ≤ b ∧ VA b w' v ms ∧ Below W.heap.size W w'
theorem vnew1 (W : World) (x : Int) (E : TypeId) : ∀ j u, ([.int .i64 x, .int .i64 1] : List Value)[j]? = some u → (W.alloc (.cells #[.int .i64 x, .int .i64 1] E)).cell? ((⟨W.heap.size, 0, none⟩ : Addr).add j) = some u := by
  intro j u hu
  rw [v_addp]
  match j with
  | 0 => simp at hu; subst hu; simp
  | 1 => simp at hu; subst hu; simp
  | j + 2 => simp at hu
set_option maxHeartbeats 3200000 in
theorem glist_any (lo hi s g : Nat) (W : World) (F c : Int) (N : Nat) (ws : List Nat) (h : GpAt lo hi s g W F N c ws) (hz : ∀ y, N ≤ y → bitB ws y = false) (ht : TzTab W) (hx : ∀ x ∈ listB ws N, 0 ≤ x ∧ x < N) (hlen : (listB ws N).length ≤ 1024) :
    Calls Tryd.prog 22 #[.pointer (some ⟨g, 0, none⟩)] W (GList W (runs F (listB ws N))) := by
  have H := Lib.hid h
  obtain ⟨h1, h2, h3, h4, h5, h6, ⟨h7, h8, h9⟩, h10, h11⟩ := h
  have HS := Lib.hid h6
  have HZ := Lib.hid hz
  have HX := Lib.hid hx
  have T := Lib.hid ht
  obtain ⟨xs, hxs⟩ : ∃ xs, listB ws N = xs := ⟨_, rfl⟩
  rw [hxs] at hlen HX ⊢
  have HXS := Lib.hid hxs
  clear h6 hz ht hxs hx
  go_enter Tryd.func22, Tryd.ntmps22
  go_wp2_with fail
  refine (slist_any lo hi s W c N ws HS.out HZ.out T.out).mono ?_
  rintro e w1 ⟨a, cap, rfl, hI, hb⟩
  rw [HXS.out] at hI ⊢
  have HI := Lib.hid hI
  have HB := Lib.hid hb
  have h31 := (hb.cell (p := ⟨g, 0, none⟩) h1).trans h3
  have hg1 : g < w1.heap.size := Nat.lt_of_lt_of_le h1 hb.size
  clear hI hb h3 h4 h5 HS
  go_wp2_with fail
  go_loopw [3, 16] (fun v3 v16 wr => ∃ (i b : Nat), i ≤ xs.length ∧ v16 = .int .i64 i ∧ w1.heap.size ≤ b ∧ Hid (VA b wr v3 (runs F (xs.take i))) ∧ Hid (Below w1.heap.size w1 wr)) (fun _ v16 _ => xs.length - (intOf v16).toNat)
  case atStart => exact ⟨0, w1.heap.size, by omega, rfl, Nat.le_refl _, Lib.hid (vz_nil _ _ _), Lib.hid (Below.refl _ _)⟩
  case round =>
    obtain ⟨i, b, hi, rfl, hb, HV, HW⟩ := hrel
    by_cases hlt : i < xs.length
    · obtain ⟨hl9, h0 | ⟨bb, off, rfl, hbb, _, hc⟩⟩ := HI.out
      · omega
      · have r0 := (HW.out.cell (p := ⟨bb, off + i, none⟩) hbb).trans (hc i hlt)
        have rg := (HW.out.cell (p := ⟨g, 0, none⟩) hg1).trans h31
        obtain ⟨x, hxi⟩ : ∃ x, xs.getD i 0 = x := ⟨_, rfl⟩
        have hxm : xs[i]? = some x := by rw [← hxi]; simp [List.getD, List.getElem?_eq_getElem hlt]
        have hxb := HX.out x (List.mem_of_getElem? hxm)
        have hrs : runs F (xs.take (i + 1)) = gstep F (runs F (xs.take i)) x := by rw [List.take_add_one, hxm]; exact runs_snoc _ _ _
        have hbd := runs_bd F N (xs.take i) (fun y hy => HX.out y (List.mem_of_mem_take hy))
        have hll := runs_len F (xs.take i)
        rw [List.length_take] at hll
        rw [hxi] at r0
        clear hc hxi hxm
        obtain ⟨L, hL⟩ : ∃ L, runs F (xs.take i) = L := ⟨_, rfl⟩
        rw [hL] at HV hrs hbd hll
        have i1 : (i : Int) < xs.length := by omega
        have hw : IntKind.i64.wrap (F + x) = F + x := by rw [IntKind.wrap_i64]; omega
        rcases List.eq_nil_or_concat L with rfl | ⟨l, p, rfl⟩
        · have hg1 : runs F (xs.take (i + 1)) = [(F + x, 1)] := hrs
          have HG1 := Lib.hid hg1
          have hsh := HV.out
          obtain ⟨A, c3, rfl, _⟩ := hsh
          clear hg1 hrs hbd hll hL
          go_wp2_with fail
          go_quiet (fail)
          obtain ⟨W5, hW5⟩ : ∃ W5, wr.drewN nq = W5 := ⟨_, rfl⟩
          have HB5 : Hid (Below w1.heap.size w1 W5) := Lib.hid (by rw [← hW5]; exact below_drewN HW.out nq)
          have HV5 : Hid (VA b W5 (.slice A 0 c3) []) := Lib.hid (by rw [← hW5]; exact HV.out.keep (Nat.le_refl _) (fun _ => rfl))
          rw [hW5]
          clear hW5 HV r0 rg
          go_wp2_with (at_builtin; refine app_vz tyArea rfl _ _ rfl b (.slice A 0 c3) 0 [] rfl (HV5.out.below (alc0 W5 _)) ⟨W5.heap.size, 0, none⟩ 1 1 [.int .i64 (F + x), .int .i64 1] rfl rfl (vnew1 W5 (F + x) _) (by simp [Value.oneCell']) (.inl (by decide)) (by decide) ?_)
          rintro v' w' ⟨b', hb', hv', hs', ho', hl'⟩
          have HV6 : Hid (VA b' w' v' (runs F (xs.take (i + 1)))) := Lib.hid (by rw [HG1.out]; exact hv')
          have HB6 : Hid (Below w1.heap.size w1 w') := Lib.hid ((HB5.out.alloc HB5.out.size _).trans (hl' _ hb (by have := HB5.out.size; simp; omega)))
          have hb6 : w1.heap.size ≤ b' := by
            rcases hb' with rfl | h
            · exact hb
            · have := HB5.out.size; simp at h; omega
          clear hb' hv' hs' ho' hl'
          go_wp2_with fail
          go_roundw
          case rel => exact ⟨i + 1, b', by omega, by go_num, hb6, HV6, HB6⟩
          case measure => simp [intOf] <;> omega
        · rw [List.concat_eq_append] at HV hrs hbd hll
          have hpb := hbd p (by simp)
          have hll2 : l.length + 1 ≤ 1024 := by simp at hll; omega
          have hsh := HV.out
          rcases va_open hsh with ⟨_, e⟩ | ⟨off3, c3, rfl, p7, p8, p9, p10⟩
          · simp at e
          · obtain ⟨q0, q1⟩ := p10 l.length p (by simp)
            have hle : (l ++ [p]).length = l.length + 1 := by simp
            rw [hle] at HV p8 ⊢
            have hfz : wr.frozen? ⟨b, off3 + l.length * 2 + 1, none⟩ = false := by
              obtain ⟨A, c', e, e1, e2, e3, e4, ⟨e5, _⟩ | ⟨off', e6, _, _, e7⟩⟩ := hsh
              · injection e with e8; rw [e5] at e8; cases e8
              · injection e with e8 _ e9
                rw [e6] at e8; injection e8 with e8; injection e8 with _ e8
                subst e8; subst e9
                have := (e7 (l.length * 2 + 1) (by omega)).2
                rwa [← Nat.add_assoc] at this
            have hn0 : (0 : Int) < (l.length : Int) + 1 := by omega
            have hnn : decide ((0 : Int) < (l.length : Int) + 1) = true := by rw [decide_eq_true hn0]
            have hi1 : (l.length : Int) < (l.length : Int) + 1 := by omega
            have hw5 : IntKind.i64.wrap (p.1 + p.2) = p.1 + p.2 := by rw [IntKind.wrap_i64]; omega
            have hw6 : IntKind.i64.wrap (p.2 + 1) = p.2 + 1 := by rw [IntKind.wrap_i64]; omega
            by_cases hm : p.1 + p.2 = F + x
            · have hg1 : runs F (xs.take (i + 1)) = l ++ [(p.1, p.2 + 1)] := by rw [hrs]; simp [gstep, hm]
              have HG1 := Lib.hid hg1
              have hbq : (p.1 + p.2 == F + x) = true := by simpa using hm
              have HM := Lib.hid hm
              clear hg1 hrs hbd hll hL p10 hsh hle hm
              go_wp2_with fail
              go_quiet (fail)
              have HVq : ∀ q, Hid (VA b ((wr.drewN q).setCell ⟨b, off3 + l.length * 2 + 1, none⟩ (.int .i64 (p.2 + 1))) (.slice (some ⟨b, off3, none⟩) (l.length + 1) c3) (runs F (xs.take (i + 1)))) := fun q => Lib.hid (by rw [HG1.out]; exact va_last (HV.out.keep (W' := wr.drewN q) (Nat.le_refl _) (fun _ => rfl)))
              have HBq : ∀ q, Hid (Below w1.heap.size w1 ((wr.drewN q).setCell ⟨b, off3 + l.length * 2 + 1, none⟩ (.int .i64 (p.2 + 1)))) := fun q => Lib.hid ((below_drewN HW.out q).setCell hb _)
              go_wp2_with fail
              go_roundw
              case rel => exact ⟨i + 1, b, by omega, by go_num, hb, HVq _, HBq _⟩
              case measure => simp [intOf] <;> omega
            · have hg1 : runs F (xs.take (i + 1)) = (l ++ [p]) ++ [(F + x, 1)] := by rw [hrs]; simp [gstep, hm]
              have HG1 := Lib.hid hg1
              have hbq : (p.1 + p.2 == F + x) = false := by simpa using hm
              clear hg1 hrs hbd hll hL p10 hsh hle hm
              go_wp2_with fail
              go_quiet (fail)
              obtain ⟨W5, hW5⟩ : ∃ W5, wr.drewN nq = W5 := ⟨_, rfl⟩
              have HB5 : Hid (Below w1.heap.size w1 W5) := Lib.hid (by rw [← hW5]; exact below_drewN HW.out nq)
              have HV5 : Hid (VZ 2 b W5 (.slice (some ⟨b, off3, none⟩) (l.length + 1) c3) (l.length + 1) ((l ++ [p]).flatMap enc2)) := Lib.hid (by
                have h9 := HV.out.keep (W' := W5) (by rw [← hW5]; exact Nat.le_refl _) (fun _ => by rw [← hW5]; rfl)
                have h8 : (l ++ [p]).length = l.length + 1 := by simp
                rw [h8] at h9
                exact h9)
              rw [hW5]
              clear hW5 HV r0 rg q0 q1 hfz
              go_wp2_with (at_builtin; refine app_vz tyArea rfl _ _ rfl b (.slice (some ⟨b, off3, none⟩) (l.length + 1) c3) (l.length + 1) ((l ++ [p]).flatMap enc2) rfl (HV5.out.below (alc0 W5 _)) ⟨W5.heap.size, 0, none⟩ 1 1 [.int .i64 (F + x), .int .i64 1] rfl rfl (vnew1 W5 (F + x) _) (by simp [Value.oneCell']) (.inl (by decide)) (by omega) ?_)
              rintro v' w' ⟨b', hb', hv', hs', ho', hl'⟩
              have HV6 : Hid (VA b' w' v' (runs F (xs.take (i + 1)))) := Lib.hid (by
                rw [HG1.out]
                show VZ 2 b' w' v' ((l ++ [p]) ++ [(F + x, 1)]).length (((l ++ [p]) ++ [(F + x, 1)]).flatMap enc2)
                have h8 : ((l ++ [p]) ++ [(F + x, 1)]).length = l.length + 1 + 1 := by simp
                rw [h8, List.flatMap_append, List.flatMap_append]
                simpa [enc2] using hv')
              have HB6 : Hid (Below w1.heap.size w1 w') := Lib.hid ((HB5.out.alloc HB5.out.size _).trans (hl' _ hb (by have := HB5.out.size; simp; omega)))
              have hb6 : w1.heap.size ≤ b' := by
                rcases hb' with rfl | h
                · exact hb
                · have := HB5.out.size; simp at h; omega
              clear hb' hv' hs' ho' hl'
              go_wp2_with fail
              go_roundw
              case rel => exact ⟨i + 1, b', by omega, by go_num, hb6, HV6, HB6⟩
              case measure => simp [intOf] <;> omega
    · obtain rfl : i = xs.length := by omega
      rw [List.take_length] at HV
      have hsh := HV.out
      obtain ⟨A, c', rfl, _⟩ := hsh
      go_wp2
      go_ret
      exact ⟨b, _, rfl, by have := HB.out.size; omega, HV.out, thn HB.out HW.out⟩
/-- The first gap that is wide enough: its first page. -/
def findL (n : Int) : List Ar → Int
  | [] => -1
  | p :: r => if n ≤ p.2 then p.1 else findL n r
theorem nggfind (n : Int) (W : World) (hn : n = 1) : Calls Tryd.prog 18 #[.pointer none, .int .i64 n] W fun e w' => e = .returned (.int .i64 (-1)) ∧ Below W.heap.size W w' := by
  subst hn
  go_enter Tryd.func18, Tryd.ntmps18
  go_wp2_with fail
  refine (nglist W).mono ?_
  rintro e w1 ⟨rfl, rfl⟩
  go_wp2_with fail
  go_loopw [12] (fun v12 wr => v12 = .int .i64 0 ∧ W = wr) (fun _ _ => 0)
  case atStart => exact ⟨rfl, rfl⟩
  case round =>
    obtain ⟨rfl, rfl⟩ := hrel
    go_wp2
    go_ret
    exact ⟨rfl, Below.refl _ _⟩
theorem nggwide (W : World) : Calls Tryd.prog 24 #[.pointer none] W fun e w' => e = .returned (.int .i64 0) ∧ Below W.heap.size W w' := by
  go_enter Tryd.func24, Tryd.ntmps24
  go_wp2_with fail
  refine (nglist W).mono ?_
  rintro e w1 ⟨rfl, rfl⟩
  go_wp2_with fail
  go_loopw [3, 9] (fun v3 v9 wr => v9 = .int .i64 0 ∧ v3 = .int .i64 0 ∧ W = wr) (fun _ _ _ => 0)
  case atStart => exact ⟨rfl, rfl, rfl⟩
  case round =>
    obtain ⟨rfl, rfl, rfl⟩ := hrel
    go_wp2
    go_ret
    exact ⟨rfl, Below.refl _ _⟩
theorem gfind_low (v : Value) (n : Int) (W : World) (hn : n < 1) : Calls Tryd.prog 18 #[v, .int .i64 n] W fun e w' => e = .returned (.int .i64 (-1)) ∧ Below W.heap.size W w' := by
  go_enter Tryd.func18, Tryd.ntmps18
  go_wp2
  go_ret
  exact ⟨rfl, Below.refl _ _⟩
set_option maxHeartbeats 1600000 in
theorem gfind_any (lo hi s g : Nat) (W : World) (F c : Int) (N : Nat) (ws : List Nat) (n : Int) (h : GpAt lo hi s g W F N c ws) (hz : ∀ y, N ≤ y → bitB ws y = false) (ht : TzTab W) (hx : ∀ x ∈ listB ws N, 0 ≤ x ∧ x < N) (hlen : (listB ws N).length ≤ 1024) (hn : 1 ≤ n) :
    Calls Tryd.prog 18 #[.pointer (some ⟨g, 0, none⟩), .int .i64 n] W fun e w' => e = .returned (.int .i64 (findL n (runs F (listB ws N)))) ∧ Below W.heap.size W w' := by
  have HC := Lib.hid (glist_any lo hi s g W F c N ws h hz ht hx hlen)
  have hrl := Nat.le_trans (runs_len F (listB ws N)) hlen
  clear h hz ht hx hlen
  obtain ⟨ms, hms⟩ : ∃ ms, runs F (listB ws N) = ms := ⟨_, rfl⟩
  rw [hms] at HC hrl ⊢
  clear hms
  go_enter Tryd.func18, Tryd.ntmps18
  go_wp2_with fail
  refine HC.out.mono ?_
  rintro e w1 ⟨b1, v1, rfl, hb1, hv1, hbel⟩
  have hsh := hv1
  obtain ⟨A, c1, rfl, _⟩ := hsh
  have HV := Lib.hid hv1
  have HB := Lib.hid hbel
  clear hv1 hbel HC
  go_wp2_with fail
  go_loopw [12] (fun v12 wr => ∃ i : Nat, i ≤ ms.length ∧ v12 = .int .i64 i ∧ Hid (findL n ms = findL n (ms.drop i)) ∧ Hid (Below w1.heap.size w1 wr)) (fun v12 _ => ms.length - (intOf v12).toNat)
  case atStart => exact ⟨0, by omega, rfl, Lib.hid rfl, Lib.hid (Below.refl _ _)⟩
  case round =>
    obtain ⟨i, hi, rfl, HF, HW⟩ := hrel
    by_cases hlt : i < ms.length
    · rcases va_open HV.out with ⟨_, rfl⟩ | ⟨off, c', e, h7, h8, h9, h10⟩
      · simp at hlt
      · injection e with e1 e2 e3
        subst e1; subst e3
        obtain ⟨p, hpi⟩ : ∃ p, ms[i]? = some p := ⟨_, List.getElem?_eq_getElem hlt⟩
        obtain ⟨q0, q1⟩ := h10 i p hpi
        have r0 := (HW.out.cell (p := ⟨b1, off + i * 2, none⟩) h7).trans q0
        have r1 := (HW.out.cell (p := ⟨b1, off + i * 2 + 1, none⟩) h7).trans q1
        have hd : ms.drop i = p :: ms.drop (i + 1) := by
          have := List.drop_eq_getElem_cons hlt
          rw [List.getElem?_eq_getElem hlt] at hpi
          rw [this, Option.some.inj hpi]
        have hf := HF.out
        rw [hd, findL] at hf
        have HFF := Lib.hid hf
        have i1 : (i : Int) < ms.length := by omega
        clear h10 q0 q1 hd hf hpi HF
        by_cases hle : n ≤ p.2
        · have hres : findL n ms = p.1 := by rw [HFF.out, if_pos hle]
          have HRES := Lib.hid hres
          clear hres
          go_wp2
          go_ret
          exact ⟨ret_int HRES.out.symm, thn HB.out (HW.out.alloc HW.out.size _)⟩
        · have HRES : Hid (findL n ms = findL n (ms.drop (i + 1))) := Lib.hid (by rw [HFF.out, if_neg hle])
          have hlt2 : p.2 < n := by omega
          go_wp2_with fail
          go_roundw
          case rel => exact ⟨i + 1, by omega, by go_num, HRES, Lib.hid (HW.out.alloc HW.out.size _)⟩
          case measure => simp [intOf] <;> omega
    · obtain rfl : i = ms.length := by omega
      have hres : findL n ms = -1 := by have := HF.out; rw [List.drop_length] at this; exact this
      have HRES := Lib.hid hres
      clear hres
      go_wp2
      go_ret
      exact ⟨ret_int HRES.out.symm, thn HB.out HW.out⟩
end Go.Proofs.YtjblgamngnnccaaDoor
