/- Contracts of package set: List. -/
import Derived.Test.YtljjcomedjdpaaaDoorSetK
import Derived.Test.YtljjcomedjdpaaaDoorSetB
import Derived.Test.YtljjcomedjdpaaaDoorInts0
namespace Go.Proofs.YtljjcomedjdpaaaDoor
set_option maxRecDepth 100000
open Go.RowKit
set_option linter.unusedVariables false
set_option linter.unusedSimpArgs false

theorem infoInt : (Tryd.prog.info? 3).map (fun i => (i.zero, i.size, i.bytes)) = some (some (.int .i64 0), 1, 8) := by kernel_rfl
theorem ints_of_row {w : World} {B E : Nat} {v : Value} {n : Nat} {l : List Int} (h : w.ownsRow B E 1 v n (l.map (Value.int .i64))) :
    ∃ a cap, v = .slice a n cap ∧ Ints .i64 w a n l := by
  have hl : l.length = n := by simpa using h.1
  rcases h.2 with ⟨rfl, rfl⟩ | ⟨g, cap, cur, hv, _, _, hc, hm, _⟩
  · exact ⟨none, 0, rfl, hl, .inl rfl⟩
  · refine ⟨_, cap, hv, hl, ?_⟩
    by_cases h0 : n = 0
    · exact .inl h0
    · have hb := h.lt g (by rw [hv]; rfl)
      refine .inr ⟨g, 0, rfl, hb.2, by unfold maxLen at hm; omega, fun i hi => ?_⟩
      have := h.cells (g := g) (by rw [hv]; rfl) i (.int .i64 (l.getD i 0)) (by simp [List.getD, List.getElem?_eq_getElem (show i < l.length by omega)])
      have hadd : (⟨g, 0, none⟩ : Addr).add i = ⟨g, i, none⟩ := by unfold Addr.add; split <;> simp_all
      rw [hadd] at this
      simpa using this
def ListPost (l : List Int) (w : World) (e : Ending) (w' : World) : Prop :=
  ∃ a cap, e = .returned (.slice a l.length cap) ∧ Ints .i64 w' a l.length l ∧ Below w.heap.size w w'

/-- Where the loop of List stands: x is the next number that is in the set; those below it are collected. -/
def LsAt (ws : List Nat) (N M : Nat) (x : Int) : Prop := (x = -1 ∧ listB ws N = listB ws M) ∨ (x = M ∧ M < N ∧ bitB ws M = true)
theorem LsAt.of {ws : List Nat} {N F : Nat} {r : Int} (hz : ∀ y, N ≤ y → bitB ws y = false) (hF : F ≤ N) (hN : N ≤ 64 * ws.length) (h1 : N ≤ F → r = -1) (h2 : F < N → FirstOf ws F r) : ∃ M, LsAt ws N M r ∧ listB ws M = listB ws F ∧ M ≤ N := by
  by_cases h : F < N
  · rcases h2 h with ⟨e, q⟩ | ⟨y, e, y1, y2, y3, y4⟩
    · exact ⟨F, .inl ⟨e, listB_skip hF (fun y a b => q y a (by omega))⟩, rfl, hF⟩
    · by_cases hy : y < N
      · exact ⟨y, .inr ⟨e, hy, y3⟩, listB_skip y1 y4, by omega⟩
      · rw [hz y (by omega)] at y3; cases y3
  · obtain rfl : F = N := by omega
    exact ⟨F, .inl ⟨h1 (by omega), rfl⟩, rfl, hF⟩

def lsM (N : Nat) (x : Int) : Nat := if x < 0 then 0 else (N - x).toNat + 1
theorem lsM_lt {N M : Nat} {r : Int} (h : M < N) (hr : r = -1 ∨ (M : Int) < r) : lsM N r < lsM N M := by
  unfold lsM
  rw [if_neg (show ¬ ((M : Int) < 0) by omega)]
  by_cases h2 : r < 0
  · rw [if_pos h2]; omega
  · rw [if_neg h2]; omega
set_option maxHeartbeats 800000 in
theorem slist_any (lo hi g : Nat) (W : World) (c : Int) (N : Nat) (ws : List Nat) (h : SetIs lo hi g W N c ws) (hz : ∀ y, N ≤ y → bitB ws y = false) (ht : TzTab W) :
    Calls Tryd.prog 77 #[.pointer (some ⟨g, 0, none⟩)] W (ListPost (listB ws N) W) := by
  obtain ⟨i0, hi0, hz0, hz1, hz2⟩ := info_parts infoInt
  have hn := h.2.1
  have hgs := h.1.2.2
  have HH := Lib.hid h; clear h
  have HZ := Lib.hid hz; clear hz
  have T := Lib.hid ht; clear ht
  have hN : N ≤ 65536 := by omega
  have hN2 : N ≤ 64 * ws.length := by omega
  have HN2 := Lib.hid hN2
  clear hn hN2
  go_enter Tryd.func77, Tryd.ntmps77
  go_wp2_with fail
  refine (sfirst_any _ _ _ _ _ _ _ _ HH.out T.out).mono ?_
  rintro e w' ⟨rfl, r, rfl, h1, h2⟩
  obtain ⟨M0, hM0, hM1, hM2⟩ := LsAt.of (F := 0) HZ.out (by omega) HN2.out (fun h => h1 (by omega)) (fun h => by have := h2 (by omega); simpa using this)
  have H0 := Lib.hid hM0
  have H1 := Lib.hid hM1
  clear h1 h2 hM0 hM1
  go_wp2_with fail
  go_loopw [3, 4] (fun v x wr => ∃ (M : Nat) (r : Int), M ≤ N ∧ x = .int .i64 r ∧ Hid (LsAt ws N M r) ∧ wr.ownsRow W.heap.size 3 1 v (listB ws M).length ((listB ws M).map (Value.int .i64)) ∧ Below W.heap.size W wr) (fun _ x _ => lsM N (intOf x))
  case atStart => exact ⟨M0, r, hM2, rfl, H0, by rw [H1.out]; exact World.ownsRow_nil _ _ _ _, Below.refl _ _⟩
  case round =>
    clear H0 H1
    obtain ⟨M, r, hM, rfl, HR, hown, hbel⟩ := hrel
    have hbs := hbel.size
    have hll : (listB ws M).length ≤ 65536 := by rw [listB_len]; have := cntB_le ws M; omega
    rcases HR.out with ⟨rfl, e⟩ | ⟨rfl, hlt, hb⟩
    · rw [← e] at hown
      have HO := Lib.hid hown; clear hown e hll
      go_wp2_with fail
      go_ret
      obtain ⟨a, cap, rfl, hx⟩ := ints_of_row HO.out
      exact ⟨a, cap, rfl, hx, hbel⟩
    · have hs : listB ws (M + 1) = listB ws M ++ [(M : Int)] := by rw [listB, hb]; rfl
      have HS := Lib.hid hs; clear hs hb
      go_wp2_with (at_builtin; refine wpList_append_own _ rfl _ _ 86 rfl W.heap.size 3 i0 (.int .i64 0) 1 8 Tryd.underlying86 hi0 hz0 hz1 hz2 rfl (by decide) _ _ _ rfl (hown.alloc _) ⟨wr.heap.size, 0, none⟩ 1 1 [.int .i64 (M : Int)] rfl rfl ?c1 ?c2 ?c3 ?c4 ?c5 ?_)
      case c1 => exact cell_one_new _ _ _
      case c2 => simp [Value.oneCell']
      case c3 => unfold maxLen; omega
      case c4 => omega
      case c5 => simp; omega
      intro v' w1 hown1 hgrow _
      have hb1 : Below W.heap.size W w1 := (hbel.alloc hbs _).grown hgrow (by simp; omega) (fun j hj => (hown.lt j hj).1)
      clear hgrow hown
      have HO := Lib.hid hown1; clear hown1
      have HS1 := Lib.hid (HH.out.keep hb1.size (fun i _ hi => hb1.block i (by omega)))
      go_wp2_with fail
      refine (sfirst_any _ _ _ _ _ _ _ _ HS1.out (T.out.later hb1)).mono ?_
      rintro e w' ⟨rfl, r', rfl, h1, h2⟩
      have hmx : max ((M : Int) + 1) 0 = ((M + 1 : Nat) : Int) := by omega
      rw [hmx] at h1 h2
      obtain ⟨M1, hM1, hM2, hM3⟩ := LsAt.of (F := M + 1) HZ.out (by omega) HN2.out (fun h => h1 (by omega)) (fun h => by have := h2 (by omega); simpa using this)
      have G1 := Lib.hid hM1
      have G2 := Lib.hid hM2
      clear h1 h2 hM1 hM2 hmx
      go_wp2_with fail
      go_roundw
      case rel => exact ⟨M1, r', hM3, rfl, G1, by rw [G2.out, HS.out]; simpa using HO.out, hb1⟩
      case measure =>
        have := G1.out
        have hq : r' = -1 ∨ (M : Int) < r' := by
          rcases this with ⟨e, _⟩ | ⟨e, _, hb⟩
          · exact .inl e
          · right
            rcases Nat.lt_or_ge M M1 with h | h
            · omega
            · exfalso
              have hl := congrArg List.length G2.out
              rw [listB_len, listB_len] at hl
              have h3 := (listB_at (n := M1 + 1) (x := M1) (by omega) hb).1
              have h4 := cntB_mono ws (a := M1 + 1) (b := M + 1) (by omega)
              omega
        exact lsM_lt hlt hq
end Go.Proofs.YtljjcomedjdpaaaDoor

