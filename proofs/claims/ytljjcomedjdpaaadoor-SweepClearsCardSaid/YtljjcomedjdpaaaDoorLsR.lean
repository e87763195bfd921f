/- The list of pages that are mapped is a new one. -/
import Derived.Test.YtljjcomedjdpaaaDoorSwB
import Derived.Laws.OwnMore
import Derived.Deep.DeepCutAuto

namespace Go.Proofs.YtljjcomedjdpaaaDoor
set_option maxRecDepth 100000
open Go.RowKit Go.ChangeMaps Go.MapKept
set_option linter.unusedVariables false
set_option linter.unusedSimpArgs false

theorem ints_of_row2 {w : World} {B E : Nat} {v : Value} {n : Nat} {l : List Int} (h : w.ownsRow B E 1 v n (l.map (Value.int .i64))) :
    ∃ a cap, v = .slice a n cap ∧ Ints .i64 w a n l ∧ ∀ d, a = some d → B ≤ d.block := by
  obtain ⟨a, cap, rfl, hx⟩ := ints_of_row h
  exact ⟨a, cap, rfl, hx, fun d hd => by subst hd; exact (h.lt d.block rfl).1⟩
def ListPost2 (l : List Int) (w : World) (e : Ending) (w' : World) : Prop :=
  ∃ a cap, e = .returned (.slice a l.length cap) ∧ Ints .i64 w' a l.length l ∧ (∀ d, a = some d → w.heap.size ≤ d.block) ∧ Below w.heap.size w w'
set_option maxHeartbeats 800000 in
theorem slist_fr (lo hi g : Nat) (W : World) (c : Int) (N : Nat) (ws : List Nat) (h : SetIs lo hi g W N c ws) (hz : ∀ y, N ≤ y → bitB ws y = false) (ht : TzTab W) :
    Calls Tryd.prog 77 #[.pointer (some ⟨g, 0, none⟩)] W (ListPost2 (listB ws N) W) := by
  obtain ⟨i0, hi0, hz0, hz1, hz2⟩ := info_parts infoInt
  have hn := h.2.1
  have hgs := h.1.2.2
  have HH := Lib.hid h; clear h
  have HZ := Lib.hid hz; clear hz
  have T := Lib.hid ht; clear ht
  have hN : N ≤ 65536 := by omega
  have hN2 : N ≤ 64 * ws.length := by omega
  have HN2 := Lib.hid hN2
  clear hn hN2
  go_enter Tryd.func77, Tryd.ntmps77
  go_wp2_with fail
  refine (sfirst_any _ _ _ _ _ _ _ _ HH.out T.out).mono ?_
  rintro e w' ⟨rfl, r, rfl, h1, h2⟩
  obtain ⟨M0, hM0, hM1, hM2⟩ := LsAt.of (F := 0) HZ.out (by omega) HN2.out (fun h => h1 (by omega)) (fun h => by have := h2 (by omega); simpa using this)
  have H0 := Lib.hid hM0
  have H1 := Lib.hid hM1
  clear h1 h2 hM0 hM1
  go_wp2_with fail
  go_loopw [3, 4] (fun v x wr => ∃ (M : Nat) (r : Int), M ≤ N ∧ x = .int .i64 r ∧ Hid (LsAt ws N M r) ∧ wr.ownsRow W.heap.size 3 1 v (listB ws M).length ((listB ws M).map (Value.int .i64)) ∧ Below W.heap.size W wr) (fun _ x _ => lsM N (intOf x))
  case atStart => exact ⟨M0, r, hM2, rfl, H0, by rw [H1.out]; exact World.ownsRow_nil _ _ _ _, Below.refl _ _⟩
  case round =>
    clear H0 H1
    obtain ⟨M, r, hM, rfl, HR, hown, hbel⟩ := hrel
    have hbs := hbel.size
    have hll : (listB ws M).length ≤ 65536 := by rw [listB_len]; have := cntB_le ws M; omega
    rcases HR.out with ⟨rfl, e⟩ | ⟨rfl, hlt, hb⟩
    · rw [← e] at hown
      have HO := Lib.hid hown; clear hown e hll
      go_wp2_with fail
      go_ret
      obtain ⟨a, cap, rfl, hx, hf⟩ := ints_of_row2 HO.out
      exact ⟨a, cap, rfl, hx, hf, hbel⟩
    · have hs : listB ws (M + 1) = listB ws M ++ [(M : Int)] := by rw [listB, hb]; rfl
      have HS := Lib.hid hs; clear hs hb
      go_wp2_with (at_builtin; refine wpList_append_own _ rfl _ _ 86 rfl W.heap.size 3 i0 (.int .i64 0) 1 8 Tryd.underlying86 hi0 hz0 hz1 hz2 rfl (by decide) _ _ _ rfl (hown.alloc _) ⟨wr.heap.size, 0, none⟩ 1 1 [.int .i64 (M : Int)] rfl rfl ?c1 ?c2 ?c3 ?c4 ?c5 ?_)
      case c1 => exact cell_one_new _ _ _
      case c2 => simp [Value.oneCell']
      case c3 => unfold maxLen; omega
      case c4 => omega
      case c5 => simp; omega
      intro v' w1 hown1 hgrow _
      have hb1 : Below W.heap.size W w1 := (hbel.alloc hbs _).grown hgrow (by simp; omega) (fun j hj => (hown.lt j hj).1)
      clear hgrow hown
      have HO := Lib.hid hown1; clear hown1
      have HS1 := Lib.hid (HH.out.keep hb1.size (fun i _ hi => hb1.block i (by omega)))
      go_wp2_with fail
      refine (sfirst_any _ _ _ _ _ _ _ _ HS1.out (T.out.later hb1)).mono ?_
      rintro e w' ⟨rfl, r', rfl, h1, h2⟩
      have hmx : max ((M : Int) + 1) 0 = ((M + 1 : Nat) : Int) := by omega
      rw [hmx] at h1 h2
      obtain ⟨M1, hM1, hM2, hM3⟩ := LsAt.of (F := M + 1) HZ.out (by omega) HN2.out (fun h => h1 (by omega)) (fun h => by have := h2 (by omega); simpa using this)
      have G1 := Lib.hid hM1
      have G2 := Lib.hid hM2
      clear h1 h2 hM1 hM2 hmx
      go_wp2_with fail
      go_roundw
      case rel => exact ⟨M1, r', hM3, rfl, G1, by rw [G2.out, HS.out]; simpa using HO.out, hb1⟩
      case measure =>
        have := G1.out
        have hq : r' = -1 ∨ (M : Int) < r' := by
          rcases this with ⟨e, _⟩ | ⟨e, _, hb⟩
          · exact .inl e
          · right
            rcases Nat.lt_or_ge M M1 with h | h
            · omega
            · exfalso
              have hl := congrArg List.length G2.out
              rw [listB_len, listB_len] at hl
              have h3 := (listB_at (n := M1 + 1) (x := M1) (by omega) hb).1
              have h4 := cntB_mono ws (a := M1 + 1) (b := M + 1) (by omega)
              omega
        exact lsM_lt hlt hq
theorem plist_fr {lo hi g p : Nat} {W : World} {c most peak : Int} {ws : List Nat} (h : PgIs lo hi g p W c most peak ws) (hz : ∀ y, 1024 ≤ y → bitB ws y = false) (ht : TzTab W) :
    Calls Tryd.prog 60 #[.pointer (some ⟨p, 0, none⟩)] W (ListPost2 (listB ws 1024) W) := by
  obtain ⟨h1, _, _, h5, h6, h7, h8⟩ := h
  have H := Lib.hid (slist_fr lo hi g W c 1024 ws h1 hz ht)
  clear h1 hz ht
  go_enter Tryd.func60, Tryd.ntmps60
  go_wp2_with fail
  refine H.out.mono ?_
  rintro e w' ⟨a, cap, rfl, h⟩
  have HH := Lib.hid h
  clear h
  go_wp2
  go_ret
  exact ⟨a, cap, rfl, HH.out⟩
section
variable {B : Nat} {col : Nat → Nat} {M : Nat} {W : World} {σ : MS}
theorem mlist_fr (h : MEM B col M W σ) (hz : ∀ y, 1024 ≤ y → σ.pg y = false) :
    Calls Tryd.prog 38 #[.pointer (some ⟨M, 0, none⟩)] W (ListPost2 (listF σ.pg 1024) W) := by
  have ht := h.tz
  obtain ⟨P, sg, t, S, kb, ⟨k0, -, -, -, -⟩, ⟨lo, hi, g, ws, hp, -, hb, -⟩, -⟩ := h.ex
  have H := Lib.hid (plist_fr hp (fun y hy => by rw [hb]; exact hz y hy) ht)
  rw [listB_F hb] at H
  clear h hp hb ht hz
  go_enter Tryd.func38, Tryd.ntmps38
  go_wp2_with fail
  refine H.out.mono ?_
  rintro e w' ⟨a, cap, rfl, h⟩
  have HH := Lib.hid h
  clear h
  go_wp2
  go_ret
  exact ⟨a, cap, rfl, HH.out⟩
end
def SwNewPost2 (k : Nat) (l : List Int) (W : World) (e : Ending) (w' : World) : Prop :=
  ∃ s A cp, e = .returned (.pointer (some ⟨s, 0, none⟩)) ∧ SWAt s k A l.length cp 0 0 w' ∧ Ints .i64 w' A l.length l ∧ (∀ d, A = some d → W.heap.size ≤ d.block ∧ (d.block < s ∨ l.length = 0)) ∧ W.heap.size ≤ s ∧ Below W.heap.size W w'
section
variable {B : Nat} {col : Nat → Nat} {M R g k : Nat} {W : World} {σ : MS} {f : Nat → CapV}
theorem swnew_fr (hm : MEM B col M W σ) (hz : ∀ y, 1024 ≤ y → σ.pg y = false) (hr : RegAt R g k W (CV f)) :
    Calls Tryd.prog 13 #[.pointer (some ⟨M, 0, none⟩), .pointer (some ⟨R, 0, none⟩)] W (SwNewPost2 k (listF σ.pg 1024) W) := by
  have HM := Lib.hid hm
  have HZ := Lib.hid hz
  have HR := Lib.hid hr
  have hk64 : k ≤ 64 := hr.2.2.2.1
  have hl := listF_len σ.pg 1024
  clear hm hz hr
  go_enter Tryd.func13, Tryd.ntmps13
  go_wp2_with fail
  refine (rlen_any R g k _ _ HR.out).mono ?_
  rintro e w1 ⟨rfl, rfl⟩
  go_wp2_with fail
  refine (mlist_fr HM.out HZ.out).mono ?_
  rintro e w2 ⟨A, cp, rfl, hi, hf, hb⟩
  have HI := Lib.hid hi
  have HF := Lib.hid hf
  obtain ⟨n, hn⟩ : ∃ n, (listF σ.pg 1024).length = n := ⟨_, rfl⟩
  rw [hn] at HI hl ⊢
  have HLTB : Hid (∀ d, A = some d → d.block < w2.heap.size ∨ n = 0) := Lib.hid (fun d hd => by
    rcases HI.out.2 with h | ⟨b, off, e, h1, -⟩
    · exact .inr h
    · rw [hd] at e; injection e with e; subst e; exact .inl h1)
  have HN := Lib.hid hn
  have HB := Lib.hid hb
  clear hi hn hb hf
  go_wp2_with fail
  go_ret
  exact ⟨w2.heap.size, A, cp, rfl, by rw [HN.out]; exact SWAt.new w2 k n A cp _ hk64 hl, by rw [HN.out]; exact HI.out.below (alc0 _ _), (fun d hd => ⟨HF.out d hd, by rw [HN.out]; exact HLTB.out d hd⟩), HB.out.size, thn HB.out (alc0 _ _)⟩
end
theorem rclone_fr (W : World) (g k : Nat) (V : Nat → Value) (hk : k ≤ 64) (hg : g < W.heap.size) (h : ∀ i, i < 6 * k → W.cell? ⟨g, i, none⟩ = some (V i)) (h1 : ∀ i, (V i).oneCell' = true) :
    Calls Tryd.prog 32 #[.slice (some ⟨g, 0, none⟩) k k] W fun e w' => ∃ g2 cap, W.heap.size ≤ g2 ∧ e = .returned (.slice (some ⟨g2, 0, none⟩) k cap) ∧ (∀ i, i < 6 * k → w'.cell? ⟨g2, i, none⟩ = some (V i)) ∧ k ≤ cap ∧ Below W.heap.size W w' := by
  obtain ⟨i0, hi0, hz0, hz1, hz2⟩ := info_parts infoCapR
  have HW := Lib.hid h; clear h
  have H1 := Lib.hid h1; clear h1
  have hq := fun W : World => Lib.run_eql_slice_nil (P := Tryd.prog) W 22 37 (some ⟨g, 0, none⟩) k k 0 0 Tryd.underlying22
  simp only [Option.isNone_some] at hq
  go_enter Tryd.func32, Tryd.ntmps32
  go_wp2_with (at_builtin; refine wpList_append_own _ rfl _ _ 22 rfl W.heap.size 37 i0 (.agg #[.int .i64 0, .int .i64 0, .int .i64 0, .int .i64 0, .int .i64 0, .bool false]) 6 48 Tryd.underlying22 hi0 hz0 hz1 hz2 rfl (by decide) _ _ _ rfl (World.ownsRow_lit W #[] 0 (Nat.le_refl _) (by omega) rfl) ⟨g, 0, none⟩ k k ((List.range (k * 6)).map V) rfl ?c1 ?c2 ?c3 ?c4 ?c5 ?c6 ?_)
  case c1 => simp
  case c2 =>
    intro j u hj
    have hlt : j < k * 6 := by
      by_cases h : j < k * 6
      · exact h
      · rw [List.getElem?_eq_none (by simp; omega)] at hj; cases hj
    have hadd : (⟨g, 0, none⟩ : Addr).add j = ⟨g, j, none⟩ := by unfold Addr.add; split <;> simp_all
    rw [hadd, World.cell?_alloc_lt _ _ _ (by exact hg), HW.out j (by omega), ← hj]
    simp [hlt]
  case c3 => intro u hu; obtain ⟨n, _, rfl⟩ := List.mem_map.1 hu; exact H1.out n
  case c4 => unfold maxLen; omega
  case c5 => omega
  case c6 => simp
  intro v' w1 hown hgrow hnil
  have hb1 : Below W.heap.size W w1 := (alc0 W _).grown hgrow (by simp) (fun j hj => by simp [Value.ownBlock] at hj; omega)
  clear hgrow
  have HO := Lib.hid hown; clear hown
  have HNIL := Lib.hid hnil; clear hnil
  go_wp2
  go_ret
  rcases HO.out.2 with ⟨rfl, hz⟩ | ⟨g2, cap', cur, rfl, hg2, hh, hc, hm, _⟩
  · exact (HNIL.out rfl).elim
  · refine ⟨g2, cap', (HO.out.lt g2 rfl).1, by simp, fun i hi => ?_, by omega, hb1⟩
    rw [HO.out.cellAt i (by omega)]
    have : i < k * 6 := by omega
    simp [this]
theorem rlist_fr (p g k : Nat) (W : World) (V : Nat → Value) (H : RegAt p g k W V) (h1 : ∀ i, (V i).oneCell' = true) :
    Calls Tryd.prog 9 #[.pointer (some ⟨p, 0, none⟩)] W fun e w' => ∃ g2 cap, W.heap.size ≤ g2 ∧ e = .returned (.slice (some ⟨g2, 0, none⟩) k cap) ∧ (∀ i, i < 6 * k → w'.cell? ⟨g2, i, none⟩ = some (V i)) ∧ k ≤ cap ∧ Below W.heap.size W w' := by
  obtain ⟨q1, q2, q3, q4, q5, q6⟩ := H
  have H6 := Lib.hid q6
  have H1 := Lib.hid h1
  clear q6 h1
  go_enter Tryd.func9, Tryd.ntmps9
  go_wp2_with fail
  refine (rclone_fr _ g k V q4 q2 (fun i hi => (H6.out i hi).1) H1.out).mono ?_
  rintro e w' ⟨g2, cap, hfr, rfl, hc, hk, hb⟩
  have HC := Lib.hid hc
  clear hc
  go_wp2
  go_ret
  exact ⟨g2, cap, hfr, rfl, HC.out, hk, hb⟩
end Go.Proofs.YtljjcomedjdpaaaDoor
