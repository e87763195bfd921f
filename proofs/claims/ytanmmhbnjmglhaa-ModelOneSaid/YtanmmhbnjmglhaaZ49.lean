/- MpQ. -/
import Derived.Test.YtanmmhbnjmglhaaZ48
namespace Go.Proofs.Ytanmmhbnjmglhaa
set_option maxRecDepth 100000
open Go.RowKit Go.ChangeMaps Go.MapKept
set_option linter.unusedVariables false
set_option linter.unusedSimpArgs false
/-- How many chunks are live, and what the register has, behind one thing. -/
def nlE (E K : Int) : Int := if E = 0 ∧ (K = 1 ∨ K = 2 ∨ K = 3) then 1 else 0
def gE (E K n mm : Int) : Rf := if E = 0 ∧ (K = 1 ∨ K = 2 ∨ K = 3) then ⟨1, 0, if K = 2 then n * mm else n, 0, 31⟩ else Rf0
theorem doE_pos {C : Cf} {N : Nat} {k t a b v n mm : Int} {ln : Nat} {full : Bool} (h0 : 0 ≤ C.mo) (h : doE C N k t a b v n mm ln full = 0) (hk : k = 1 ∨ k = 2 ∨ k = 3) : (1 ≤ if k = 2 then n * mm else n) ∧ 0 ≤ a ∧ a < (N : Int) := by
  unfold doE at h
  by_cases hr : refE N k a b v n ln = 0
  · rw [if_pos hr] at h
    have ha : 0 ≤ a ∧ a < (N : Int) := by
      unfold refE uA uB at hr
      rw [if_neg (by omega)] at hr
      by_cases hc : a < 0 ∨ (N : Int) ≤ a
      · rw [if_pos (by omega)] at hr
        cases hr
      · omega
    refine ⟨?_, ha⟩
    rcases hk with rfl | rfl | rfl
    · simp [kE] at h; have := askE_0 h; simp; omega
    · simp [kE] at h; have := calE_0 h h0; simp; omega
    · by_cases hm : malB mm = true
      · simp [kE, hm] at h; have := askE_0 h; simp; omega
      · simp [kE, hm] at h
  · rw [if_neg hr] at h
    exact absurd h hr
section
variable {m mb r : Nat} {C : Cf} {k : Nat} {W : World}
/-- The model's side. -/
def MEnd (m : Nat) (a : Int) (nl : Int) (g : Rf) (W : World) : Prop :=
  ∀ w, Below W.heap.size W w → Calls Try.prog 13 #[.pointer (some ⟨m, 0, none⟩)] w (fun e w' => e = .returned (.int .i64 nl) ∧ Below w.heap.size w w') ∧ Calls Try.prog 16 #[.pointer (some ⟨m, 0, none⟩), .int .i64 a] w (fun e w' => e = .returned g.v ∧ Below w.heap.size w w')
theorem quiet_below {f : Nat} {vs : Array Value} {W : World} {v : Value} (h : Calls Try.prog f vs W fun e w' => e = .returned v ∧ W = w') : Calls Try.prog f vs W fun e w' => e = .returned v ∧ Below W.heap.size W w' := h.mono fun e w' h9 => ⟨h9.1, by rw [← h9.2]; exact Below.refl _ _⟩
theorem mend0 {md : Nat} {rs : List Rf} (a : Int) (h : MO m mb r C md [] rs W) : MEnd m a 0 Rf0 W := fun w hb => ⟨quiet_below (mlive (h.below hb)), mgetd a (h.below hb)⟩
theorem mend1 {md q p : Nat} {rs : List Rf} (aN : Nat) (ha : aN < rs.length) (nn : Int) (hp : (p : Int) = nn) (h : MO m mb r C md [((1 : Int), q)] (rs.set aN ⟨1, 0, (p : Int), 0, 31⟩) W) : MEnd m (aN : Int) 1 ⟨1, 0, nn, 0, 31⟩ W := fun w hb => by
  refine ⟨quiet_below (mlive (h.below hb)), ?_⟩
  have h9 := mget_yes aN ⟨1, 0, (p : Int), 0, 31⟩ (h.below hb) (by rw [List.getElem?_set_self ha])
  rw [goodR_in (q := ⟨1, 0, (p : Int), 0, 31⟩) (b := q) (by simp), hp] at h9
  exact h9
/-- Behind the model's Do at any thing, from a new one on. -/
def MDPost (m mb r : Nat) (C : Cf) (a E K n mm : Int) (W : World) (e : Ending) (w' : World) : Prop :=
  e = .returned (.agg #[rE E, .int .i64 0, .slice none 0 0]) ∧ MEnd m a (nlE E K) (gE E K n mm) w' ∧ W.heap.size ≤ w'.heap.size ∧ (∀ i, i < W.heap.size → i ≠ m → i ≠ mb → i ≠ r → w'.heap[i]? = W.heap[i]?) ∧ ∀ L, L ≤ m → L ≤ mb → L ≤ r → L ≤ W.heap.size → Below L W w'
theorem mdo_end (K t a b v n mm : Int) (P : Option Addr) (ln cp : Nat) (full : Bool) (hmax : mm ≤ 9223372036854775807) (h : MO m mb r C 0 [] (List.replicate k Rf0) W) : Calls Try.prog 10 #[.pointer (some ⟨m, 0, none⟩), opv K t a b v n mm P ln cp, .bool full] W (MDPost m mb r C a (doE C k K t a b v n mm ln full) K n mm W) := by
  have hmo := h.ok.1.2.1.1
  have h9 := mdo_any K t a b v n mm P ln cp full (by decide) hmax h
  rw [List.length_replicate] at h9
  refine h9.mono fun e w' ⟨he, hd⟩ => ⟨he, ?_⟩
  clear h9 he
  obtain ⟨E, hE⟩ : ∃ E, doE C k K t a b v n mm ln full = E := ⟨_, rfl⟩
  rw [hE] at hd ⊢
  unfold DP at hd
  split at hd
  · rename_i hc
    have hps := doE_pos hmo (hE.trans hc.1) hc.2
    obtain ⟨aN, rfl⟩ : ∃ aN : Nat, a = (aN : Int) := ⟨a.toNat, by omega⟩
    obtain ⟨⟨q, d, kb, hm, -⟩, hs, ho, hl⟩ := hd
    refine ⟨?_, hs, ho, hl⟩
    unfold nlE gE
    rw [if_pos hc, if_pos hc]
    have hm2 : MO m mb r C 1 [((1 : Int), q)] ((List.replicate k Rf0).set aN ⟨1, 0, (((if K = 2 then n * mm else n).toNat : Nat) : Int), 0, 31⟩) w' := hm
    exact mend1 aN (by rw [List.length_replicate]; omega) _ (by omega) hm2
  · rename_i hc
    have hn : nlE E K = 0 := by unfold nlE; rw [if_neg hc]
    have hg : gE E K n mm = Rf0 := by unfold gE; rw [if_neg hc]
    rw [hn, hg]
    split at hd
    · obtain ⟨hm, hs, ho, hl⟩ := hd
      exact ⟨mend0 a hm, hs, ho, hl⟩
    · exact ⟨mend0 a (h.below hd), hd.size, fun i hi _ _ _ => hd.block i hi, fun L _ _ _ hL => hd.mono hL⟩
end
section
variable {C : Cf} {r k kc : Nat} {W : World}
/-- The document's side: what two blocks hold is all that it asks. -/
def REnd (C : Cf) (L : Option Addr) (ll lc g k cap lb : Nat) (a : Int) (nl : Int) (q : Rf) (W : World) : Prop :=
  ∀ w, w.heap[g]? = W.heap[g]? → w.heap[lb]? = W.heap[lb]? → W.heap.size ≤ w.heap.size → Calls Try.prog 14 #[rmv C L ll lc (some ⟨g, 0, none⟩) k cap] w (fun e w' => e = .returned (.int .i64 nl) ∧ Below w.heap.size w w') ∧ Calls Try.prog 17 #[rmv C L ll lc (some ⟨g, 0, none⟩) k cap, .int .i64 a] w (fun e w' => e = .returned q.v ∧ Below w.heap.size w w')
def RDEnd (C : Cf) (r k : Nat) (a E K n mm : Int) (W : World) (e : Ending) (w' : World) : Prop :=
  ∃ L ll lc g cap lb, e = .returned (.tuple #[rmv C L ll lc (some ⟨g, 0, none⟩) k cap, .agg #[rE E, .int .i64 0, .slice none 0 0]]) ∧ REnd C L ll lc g k cap lb a (nlE E K) (gE E K n mm) w' ∧ (W.heap.size ≤ g ∨ g = r) ∧ (W.heap.size ≤ lb ∨ lb = r) ∧ g < w'.heap.size ∧ lb < w'.heap.size ∧ Below W.heap.size W w'
theorem rdo_end (K t a b v n mm : Int) (P : Option Addr) (ln cp : Nat) (full : Bool) (hk64 : k ≤ 64) (hok : C.ok) (hmax : mm ≤ 9223372036854775807) (h : RZ r k W) : Calls Try.prog 11 #[rmv C none 0 0 (some ⟨r, 0, none⟩) k kc, opv K t a b v n mm P ln cp, .bool full] W (RDEnd C r k a (doE C k K t a b v n mm ln full) K n mm W) := by
  have hrz := h.2
  refine (rdo_any K t a b v n mm P ln cp full hk64 hok hmax h).mono fun e w' hd => ?_
  obtain ⟨E, hE⟩ : ∃ E, doE C k K t a b v n mm ln full = E := ⟨_, rfl⟩
  rw [hE] at hd ⊢
  rcases hd with ⟨h0, hk, aN, rfl, ha, lb, lcap, g, cap, rfl, hq, hg1, hg2, hl1, hl2, hl, hb⟩ | ⟨h0, hk, aN, rfl, ha, g, cap, rfl, hq, hg1, hg2, hb⟩ | ⟨hno, rfl, hb⟩
  · subst h0
    refine ⟨_, _, _, _, _, lb, rfl, ?_, .inl hg1, .inl hl1, hg2, hl2, hb⟩
    have hn : nlE 0 K = 1 := by unfold nlE; rw [if_pos ⟨rfl, hk⟩]
    have hgg : gE 0 K n mm = ⟨1, 0, if K = 2 then n * mm else n, 0, 31⟩ := by unfold gE; rw [if_pos ⟨rfl, hk⟩]
    rw [hn, hgg]
    intro w hwg hwl hs
    have hlw : w.cell? ⟨lb, 3, none⟩ = some (.bool true) := (World.cell?_of_block hwl).trans hl
    refine ⟨llive1 lb lcap (by omega) hlw, ?_⟩
    exact rget_yes aN ⟨1, 0, if K = 2 then n * mm else n, 0, 31⟩ ⟨1, 0, if K = 2 then n * mm else n, 0, 31⟩ ha (by omega) (hq.keep hwg) (fun w2 hb2 => rgood1 _ _ _ _ (by omega) (World.block_lt_of_cell? _ _ ((World.cell?_of_block (a := ⟨lb, 3, none⟩) (hb2 lb (by omega))).trans hlw)) ((World.cell?_of_block (hb2 lb (by omega))).trans hlw))
  · subst h0
    refine ⟨_, _, _, _, _, g, rfl, ?_, .inl hg1, .inl hg1, hg2, hg2, hb⟩
    have hn : nlE 0 K = 0 := by unfold nlE; rw [if_neg (by omega)]
    have hgg : gE 0 K n mm = Rf0 := by unfold gE; rw [if_neg (by omega)]
    rw [hn, hgg]
    intro w hwg _ hs
    exact ⟨llive0 _ _, rget_yes aN Rf0 Rf0 ha (by omega) (hq.keep hwg) (fun w2 _ => rgood0)⟩
  · have hsz := hb.size
    refine ⟨_, _, _, _, _, r, rfl, ?_, .inr rfl, .inr rfl, by omega, by omega, hb⟩
    have hn : nlE E K = 0 := by unfold nlE; rw [if_neg (by omega)]
    have hgg : gE E K n mm = Rf0 := by unfold gE; rw [if_neg (by omega)]
    rw [hn, hgg]
    intro w hwg _ hs
    exact ⟨llive0 _ _, rgetz a ((h.below hb).keep hs hwg)⟩
end
end Go.Proofs.Ytanmmhbnjmglhaa
