/- Contracts of package set: Twin, Same. -/
import Derived.Test.YtjblgamngnnccaaDoorSetK
import Derived.Laws.OwnMore
import Derived.Lib.SliceRun
import Derived.Deep.RegionWith
import Derived.Deep.DeepCutAuto
namespace Go.Proofs.YtjblgamngnnccaaDoor
open Go.RowKit
set_option linter.unusedVariables false
set_option linter.unusedSimpArgs false

/-- Words that lie in a row. -/
def WordsAt (W : World) (gw : Nat) (ws : List Nat) : Prop := ∀ i, i < ws.length → W.cell? ⟨gw, i, none⟩ = some (.int .u64 (ws.getD i 0 : Nat)) ∧ W.frozen? ⟨gw, i, none⟩ = false ∧ ws.getD i 0 < 18446744073709551616
def ClonePost (W : World) (ws : List Nat) (e : Ending) (w' : World) : Prop :=
  ∃ gw cap, e = .returned (.slice (some ⟨gw, 0, none⟩) ws.length cap) ∧ W.heap.size ≤ gw ∧ gw < w'.heap.size ∧ ws.length ≤ cap ∧ cap ≤ 9223372036854775807 ∧ WordsAt w' gw ws ∧ Below W.heap.size W w'
theorem addz (b : Nat) (i : Nat) : (⟨b, 0, none⟩ : Addr).add i = ⟨b, i, none⟩ := by unfold Addr.add; split <;> simp_all
theorem sclone (W : World) (gw cap : Nat) (ws : List Nat) (h : WordsAt W gw ws) (hl : ws.length ≤ 1024) :
    Calls Tryd.prog 44 #[.slice (some ⟨gw, 0, none⟩) ws.length cap] W (ClonePost W ws) := by
  obtain ⟨i0, hi0, hz0, hz1, hz2⟩ := info_parts infoU64
  have HW := Lib.hid h; clear h
  have hnews : ∀ j u, (ws.map fun n : Nat => Value.int .u64 (n : Int))[j]? = some u → W.cell? ((⟨gw, 0, none⟩ : Addr).add j) = some u := by
    intro j u hj
    have hlt : j < ws.length := by
      by_cases h : j < ws.length
      · exact h
      · rw [List.getElem?_eq_none (by simp; omega)] at hj; cases hj
    rw [addz, (HW.out j hlt).1, ← hj]
    simp [List.getD, List.getElem?_eq_getElem hlt]
  have HN := Lib.hid hnews; clear hnews
  obtain ⟨L, hL⟩ : ∃ L, ws.length = L := ⟨_, rfl⟩
  have HL := Lib.hid hL
  rw [hL] at hl ⊢
  clear hL
  have hq := fun W : World => Lib.run_eql_slice_nil (P := Tryd.prog) W 65 70 (some ⟨gw, 0, none⟩) L cap 0 0 Tryd.underlying65
  simp only [Option.isNone_some] at hq
  go_enter Tryd.func44, Tryd.ntmps44
  go_wp2_with (at_builtin; refine wpList_append_own _ rfl _ _ 65 rfl W.heap.size 70 i0 (.int .u64 0) 1 8 Tryd.underlying65 hi0 hz0 hz1 hz2 rfl (by decide) _ _ _ rfl (World.ownsRow_lit W #[] 0 (Nat.le_refl _) (by omega) rfl) ⟨gw, 0, none⟩ L cap (ws.map fun n : Nat => Value.int .u64 (n : Int)) rfl ?c1 ?c2 ?c3 ?c4 ?c5 ?c6 ?_)
  case c1 => simp [HL.out]
  case c2 =>
    intro j u hj
    have h1 := HN.out j u hj
    have h2 : gw < W.heap.size := by
      by_cases h : gw < W.heap.size
      · exact h
      · rw [addz] at h1
        exact absurd (World.block_lt_of_cell? W _ h1) h
    rw [addz] at h1 ⊢
    rw [World.cell?_alloc_lt _ _ _ h2]
    exact h1
  case c3 => intro u hu; obtain ⟨n, _, rfl⟩ := List.mem_map.1 hu; rfl
  case c4 => unfold maxLen; omega
  case c5 => omega
  case c6 => simp
  intro v' w1 hown hgrow hnil
  have hb1 : Below W.heap.size W w1 := (alc0 W _).grown hgrow (by simp) (fun j hj => by simp [Value.ownBlock] at hj; omega)
  clear hgrow
  have HO := Lib.hid hown; clear hown
  have HNIL := Lib.hid hnil; clear hnil
  go_wp2
  go_ret
  rcases HO.out.2 with ⟨rfl, hz⟩ | ⟨g, cap', cur, rfl, hg, hh, hc, hm, _⟩
  · exact (HNIL.out rfl).elim
  · have hb := HO.out.lt g rfl
    refine ⟨g, cap', by rw [HL.out]; rfl, hg, hb.2, by rw [HL.out]; exact hc, by unfold maxLen at hm; omega, fun i hi => ?_, hb1⟩
    refine ⟨?_, HO.out.frozenAt i, (HW.out i hi).2.2⟩
    rw [HO.out.cellAt i (by rw [HL.out] at hi; omega)]
    simp [List.getD, List.getElem?_eq_getElem hi]

def TwinPost (n c : Int) (ws : List Nat) (W : World) (e : Ending) (w' : World) : Prop :=
  ∃ g, e = .returned (.pointer (some ⟨g, 0, none⟩)) ∧ SetIs W.heap.size w'.heap.size g w' n c ws ∧ Below W.heap.size W w'
theorem twin_end {T : TypeId} {W w1 : World} {n c : Int} {ws : List Nat} {gt ct L : Nat} (hb : Below W.heap.size W w1) (t1 : W.heap.size ≤ gt) (t2 : gt < w1.heap.size) (t3 : L ≤ ct) (t4 : ct ≤ 9223372036854775807) (t5 : WordsAt w1 gt ws)
    (hn : 0 ≤ n ∧ n ≤ 65536 ∧ n ≤ 64 * ws.length ∧ ws.length ≤ 1024) (hL : ws.length = L) :
    TwinPost n c ws W (.returned (.pointer (some ⟨w1.heap.size, 0, none⟩))) (w1.alloc (.cells #[.int .i64 n, .int .i64 c, .slice (some ⟨gt, 0, none⟩) L ct] T)) := by
  subst hL
  have hs := hb.size
  refine ⟨w1.heap.size, rfl, ⟨⟨hs, by simp, Nat.le_refl _⟩, hn, by simp, by simp, by simp, gt, ct, by simp, t1, by simp; omega, by omega, t3, t4, fun i hi => ?_⟩, alc hb _⟩
  obtain ⟨a, b, d⟩ := t5 i hi
  refine ⟨?_, ?_, d⟩
  · rw [World.cell?_alloc_lt _ _ _ (by exact t2)]; exact a
  · rw [← b]; exact World.frozen?_of_block (heap_old _ _ _ t2)
set_option maxHeartbeats 1600000 in
theorem stwin_any (lo hi g : Nat) (W : World) (n c : Int) (ws : List Nat) (h : SetIs lo hi g W n c ws) :
    Calls Tryd.prog 35 #[.pointer (some ⟨g, 0, none⟩)] W (TwinPost n c ws W) := by
  have HH := Lib.hid h
  obtain ⟨⟨h1, h2, h3⟩, hn, c0, c1, f1, gw, cap, c2, g1, g2, g3, hc, hc2, hw⟩ := h
  have HC := Lib.hid (fun W' (hb : Below W.heap.size W W') => sclone W' gw cap ws (fun i hi => by
    obtain ⟨a, b, d⟩ := hw i hi
    exact ⟨(World.cell?_of_block (hb.block gw (by omega))).trans a, (World.frozen?_of_block (hb.block gw (by omega))).trans b, d⟩) hn.2.2.2)
  clear hw
  have HNN := Lib.hid hn
  clear hn
  obtain ⟨L, hL⟩ : ∃ L, ws.length = L := ⟨_, rfl⟩
  have HL := Lib.hid hL
  rw [hL] at HC c2 hc
  clear hL
  go_enter Tryd.func35, Tryd.ntmps35
  go_upto_region 3 with (fail)
  go_region_with (go_at_call 44; refine (HC.out _ (by first | exact (Below.refl _ _).drew | exact Below.refl _ _ | assumption)).mono ?_; rintro e w1 ⟨gt, ct, rfl, t1, t2, t3, t4, t5, hb⟩; have q0 : w1.cell? ⟨g, 0, none⟩ = some (.int .i64 n) := (World.cell?_of_block (hb.block g (by first | omega | (simp; omega)))).trans c0; have q1 : w1.cell? ⟨g, 1, none⟩ = some (.int .i64 c) := (World.cell?_of_block (hb.block g (by first | omega | (simp; omega)))).trans c1; rw [HL.out] at t3 ⊢)
  all_goals
    go_wp2
    go_ret
    exact twin_end ((Below.refl W.heap.size W).drew.trans hb) t1 t2 t3 t4 t5 HNN.out HL.out
end Go.Proofs.YtjblgamngnnccaaDoor
