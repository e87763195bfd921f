/- BrN, BrO, BrP. -/
import Derived.Test.YtnfcpohbdkionaaGreatDoorZ31
import Derived.Test.YtnfcpohbdkionaaGreatDoorZ41
import Derived.Test.YtnfcpohbdkionaaGreatDoorZ40
import Derived.Test.YtnfcpohbdkionaaGreatDoorZ36
import Derived.Test.YtnfcpohbdkionaaGreatDoorZ38
namespace Go.Proofs.YtnfcpohbdkionaaGreatDoor
set_option maxRecDepth 100000
open Go.RowKit Go.ChangeMaps Go.MapKept
set_option linter.unusedVariables false
set_option linter.unusedSimpArgs false
structure HST (b l c p t : Int) (v : Bool) (d m n q r : Int) (y : Bool) (E : Int) (σ : MS) : Prop where
  st : ∀ (u : World) (B : Nat) (col : Nat → Nat) (M : Nat), MEM B col M u s37b → Calls Tryz.prog 13 #[.pointer (some ⟨M, 0, none⟩), .agg #[.int .i64 b, .int .i64 l, .int .i64 c, .int .i64 p, .int .i64 t, .bool v], .agg #[.int .i64 d, .int .i64 m, .int .i64 n, .int .i64 q, .int .i64 r, .bool y]] u fun e w' => e = .returned (.int .i64 E) ∧ MStep B col M u σ w'
  pg : σ.pg = s37b.pg
  f : σ.f = s37b.f
  ld : ∃ (d' m' n' q' r' : Int) (y' : Bool) (er : Int), (∀ (u : World) (B : Nat) (col : Nat → Nat) (M : Nat), MEM B col M u σ → Calls Tryz.prog 14 #[.pointer (some ⟨M, 0, none⟩), .agg #[.int .i64 b, .int .i64 l, .int .i64 c, .int .i64 p, .int .i64 t, .bool v]] u fun e w' => e = .returned (.tuple #[.agg #[.int .i64 d', .int .i64 m', .int .i64 n', .int .i64 q', .int .i64 r', .bool y'], .int .i64 er]) ∧ Below u.heap.size u w') ∧ ((d' = d ∧ m' = m ∧ n' = n ∧ q' = q ∧ r' = r ∧ y' = y) ∨ ((d' = 0 ∧ m' = 0 ∧ n' = 0 ∧ q' = 0 ∧ r' = 0 ∧ y' = false) ∧ (er ≠ 0 ∨ E ≠ 0)))
theorem code_ok {L1 L2 LD L4 L5 : Nat} {L3 : Int} (h : capOkB L1 L2 L3 L4 L5 = true) (hD : L3 - L1 + 1048576 = LD) : (codeOk (codeF L1 L2 LD L4 L5) = true ∧ get3 (codeF L1 L2 LD L4 L5) 1 = L1 ∧ get3 (codeF L1 L2 LD L4 L5) 4 = L2 ∧ (L1 : Int) + get3 (codeF L1 L2 LD L4 L5) 7 - 1048576 = L3 ∧ codeF L1 L2 LD L4 L5 10 = L4 ∧ codeF L1 L2 LD L4 L5 11 = L5) ∧ ∀ i, codeF L1 L2 LD L4 L5 i < 256 := by
  have h' := h
  simp only [capOkB, pmayB, Bool.and_eq_true, mayB_iff, decide_eq_true_eq] at h'
  obtain ⟨g1, g2, g3⟩ := codeF_get L1 L2 LD L4 L5 (by omega) (by omega) (by omega)
  have e3 : (L1 : Int) + (LD : Int) - 1048576 = L3 := by omega
  refine ⟨⟨?_, g1, g2, by rw [g3]; exact e3, rfl, rfl⟩, codeF_lt _ _ _ _ _ (by omega) (by omega)⟩
  unfold codeOk
  rw [g1, g2, g3, e3, codeF_10, codeF_11, h, codeF_0, codeF_hi _ _ _ _ _ 12 (by decide), codeF_hi _ _ _ _ _ 13 (by decide), codeF_hi _ _ _ _ _ 14 (by decide), codeF_hi _ _ _ _ _ 15 (by decide)]
  rfl
/-- Of a store that is refused. -/
theorem hst_no (b l c p t : Int) (v : Bool) (d m n q r : Int) (y : Bool) (h : slotE s37b b l c p t v 8 ≠ 0) : HST b l c p t v d m n q r y (slotE s37b b l c p t v 8) s37b := by
  refine ⟨fun u B col M hm => (hstore_no _ b l c p t v d m n q r y hm rfl h).mono (fun e w' hw => ⟨hw.1, MStep.of_later hm hw.2⟩), rfl, rfl, ?_⟩
  by_cases h4 : slotE s37b b l c p t v 4 = 0
  · exact ⟨0, 0, 0, 0, 0, false, 0, fun u B col M hm => hload_none b l c p t v hm h4 rfl, .inr ⟨⟨rfl, rfl, rfl, rfl, rfl, rfl⟩, .inr h⟩⟩
  · exact ⟨0, 0, 0, 0, 0, false, slotE s37b b l c p t v 4, fun u B col M hm => hload_no _ b l c p t v hm rfl h4, .inr ⟨⟨rfl, rfl, rfl, rfl, rfl, rfl⟩, .inl h4⟩⟩
/-- Of a store of none. -/
theorem hst_dead (b l p t : Int) (c : Nat) (v : Bool) (h : slotE s37b b l c p t v 8 = 0) : HST b l c p t v 0 0 0 0 0 false 0 (wrS s37b c 16 (fun _ => 0)) := by
  refine ⟨fun u B col M hm => hstore_dead b l p t c v 0 0 0 0 0 false hm h rfl, rfl, rfl, ?_⟩
  by_cases h4 : slotE (wrS s37b c 16 (fun _ => 0)) b l c p t v 4 = 0
  · exact ⟨0, 0, 0, 0, 0, false, 0, fun u B col M hm => hload_none b l c p t v hm h4 (by
      show offF (fun _ => false) (grF c) (grN c 16) ((c : Int) / 16).toNat = false
      simp [offF]), .inl ⟨rfl, rfl, rfl, rfl, rfl, rfl⟩⟩
  · exact ⟨0, 0, 0, 0, 0, false, slotE (wrS s37b c 16 (fun _ => 0)) b l c p t v 4, fun u B col M hm => hload_no _ b l c p t v hm rfl h4, .inl ⟨rfl, rfl, rfl, rfl, rfl, rfl⟩⟩
/-- Of a store of one. -/
theorem hst_yes (b l p t : Int) (c : Nat) (v : Bool) (L1 L2 LD L4 L5 : Nat) (L3 : Int) (h : slotE s37b b l c p t v 8 = 0) (ha : aliveB s37b L1 L2 L3 L4 L5 true = true) (hk : capOkB L1 L2 L3 L4 L5 = true) (hD : L3 - L1 + 1048576 = LD) : HST b l c p t v L1 L2 L3 L4 L5 true 0 (keepS s37b c (codeF L1 L2 LD L4 L5)) := by
  obtain ⟨hok, hlt⟩ := code_ok hk hD
  refine ⟨fun u B col M hm => hstore_yes b l p t c v L1 L2 LD L4 L5 L3 hm h ha hD, rfl, rfl, ?_⟩
  by_cases h4 : slotE (keepS s37b c (codeF L1 L2 LD L4 L5)) b l c p t v 4 = 0
  · refine ⟨L1, L2, L3, L4, L5, true, 0, fun u B col M hm => hload_live b l c p t v (c / 16) (codeF L1 L2 LD L4 L5) hm h4 (by omega) ?_ ?_ hlt L1 L2 L4 L5 L3 ⟨hok.1, hok.2.1, hok.2.2.1, hok.2.2.2.1, hok.2.2.2.2.1, hok.2.2.2.2.2, ha⟩, .inl ⟨rfl, rfl, rfl, rfl, rfl, rfl⟩⟩
    · show onK s37b.kp (c / 16) (c / 16) = true
      simp [onK]
    · intro i hi
      show (if c / 16 = c / 16 then codeF L1 L2 LD L4 L5 else s37b.kv (c / 16)) i = _
      rw [if_pos rfl]
  · exact ⟨0, 0, 0, 0, 0, false, slotE (keepS s37b c (codeF L1 L2 LD L4 L5)) b l c p t v 4, fun u B col M hm => hload_no _ b l c p t v hm rfl h4, .inr ⟨⟨rfl, rfl, rfl, rfl, rfl, rfl⟩, .inl h4⟩⟩
end Go.Proofs.YtnfcpohbdkionaaGreatDoor
namespace Go.Proofs.YtnfcpohbdkionaaGreatDoor
set_option maxRecDepth 100000
open Go.RowKit Go.ChangeMaps Go.MapKept
set_option linter.unusedVariables false
set_option linter.unusedSimpArgs false
section
variable {N B lo g : Nat} {col : Nat → Nat} {M R P pg : Nat} {pc : Int} {ws : List Nat} {B' lo' g' : Nat} {col' : Nat → Nat} {M' R' P' pg' : Nat} {pc' : Int} {ws' : List Nat} {u w V : World} {σ σ' σ2 : MS}
theorem BPl.other {X : Nat → Value} (h : BPl B lo g col M R P pg u σ X pc ws) (t : TzTab V) (hN : V.heap.size ≤ B) (hb : Below V.heap.size V w) (hs : u.heap.size ≤ w.heap.size) (hk : ∀ i, i < u.heap.size → (col i ≠ 0 ∨ i = R ∨ i = g ∨ (lo ≤ i ∧ i ≤ P)) → w.heap[i]? = u.heap[i]?) : BPl B lo g col M R P pg w σ X pc ws := by
  obtain ⟨Q, sg, x, S, kb, h1, h2, h3, h4, h5, h6⟩ := h.mem.ex
  have hk2 : ∀ i, i < u.heap.size → col i ≠ 0 → w.heap[i]? = u.heap[i]? := fun i hi hc => hk i hi (.inl hc)
  refine ⟨⟨fun i hi => by have := h.mem.own i hi; omega, h.mem.me, ⟨V, t, hN, hb⟩, Q, sg, x, S, kb, h1.keep (hk2 M h.mem.lo.2 (by rw [h.mem.me]; decide)), ?_, ?_, ?_, ?_, ?_⟩, h.reg.keep hs (hk R h.reg.1 (.inr (.inl rfl))) (hk g h.reg.2.1 (.inr (.inr (.inl rfl)))), h.pt.keep hs (fun i i1 i2 => hk i (Nat.lt_of_le_of_lt i2 h.pt.2.1.2) (.inr (.inr (.inr ⟨i1, i2⟩)))), h.cr, h.cp, h.br, h.df⟩
  · exact h2.move hs (fun i a e => hk2 i a (by rw [e]; decide)) (fun _ _ => rfl)
  · exact h3.move hs (fun i a e => hk2 i a (by rw [e]; decide)) (fun _ _ => rfl)
  · exact h4.move hs (fun i a e => hk2 i a (by rw [e]; decide)) (fun _ _ => rfl)
  · exact h5.move hs (fun i a e => hk2 i a (by rw [e]; decide)) (fun _ _ => rfl)
  · exact h6.move hs (fun i a e => hk2 i a (by rcases e with e | e <;> rw [e] <;> decide)) (fun _ _ => rfl)
theorem TWO.swap (h : TWO N B lo g col M R P pg pc ws B' lo' g' col' M' R' P' pg' pc' ws' u σ σ') : TWO N B' lo' g' col' M' R' P' pg' pc' ws' B lo g col M R P pg pc ws u σ' σ :=
  ⟨h.p2, h.p1, fun i => (h.dj i).symm, h.c2, h.c1, h.nb.symm⟩
theorem TWO.step1 (h : TWO N B lo g col M R P pg pc ws B' lo' g' col' M' R' P' pg' pc' ws' u σ σ') (t : TzTab V) (hN : V.heap.size = N) (hV : Below V.heap.size V u) (hs : MStep B col M u σ2 w) :
    ∃ col2, TWO N B lo g col2 M R P pg pc ws B' lo' g' col' M' R' P' pg' pc' ws' w σ2 σ' ∧ (∀ i, i < u.heap.size → col2 i = col i) ∧ (∀ i, i < u.heap.size → col i = 0 → w.heap[i]? = u.heap[i]?) ∧ Below V.heap.size V w ∧ u.heap.size ≤ w.heap.size := by
  obtain ⟨col2, hp, hc, ho, hb⟩ := h.p1.mstep hs
  have hbV : Below V.heap.size V w := hV.trans (hb.mono (by have := h.nb; omega))
  have ho0 : ∀ i, i < u.heap.size → col i = 0 → w.heap[i]? = u.heap[i]? := fun i hi h0 => ho i hi (by omega)
  have z1 := h.p2.reg.1
  have z2 := h.p2.reg.2.1
  have z3 := h.p2.pt.2.1.2
  refine ⟨col2, ⟨hp, h.p2.other t (by have := h.nb; omega) hbV hb.size (fun i hi hq => ho0 i hi ?_), fun i => ?_, h.c1, ⟨(hc R' z1).trans h.c2.1, (hc g' z2).trans h.c2.2.1, fun i i1 i2 => (hc i (by omega)).trans (h.c2.2.2 i i1 i2)⟩, h.nb⟩, hc, ho0, hbV, hb.size⟩
  · rcases hq with hq | rfl | rfl | ⟨q1, q2⟩
    · exact (h.dj i).resolve_right hq
    · exact h.c2.1
    · exact h.c2.2.1
    · exact h.c2.2.2 i q1 q2
  · by_cases hi : i < u.heap.size
    · rw [hc i hi]; exact h.dj i
    · exact .inr (h.p2.mem.old (by omega))
theorem TWO.step2 (h : TWO N B lo g col M R P pg pc ws B' lo' g' col' M' R' P' pg' pc' ws' u σ σ') (t : TzTab V) (hN : V.heap.size = N) (hV : Below V.heap.size V u) (hs : MStep B' col' M' u σ2 w) :
    ∃ col2, TWO N B lo g col M R P pg pc ws B' lo' g' col2 M' R' P' pg' pc' ws' w σ σ2 ∧ (∀ i, i < u.heap.size → col2 i = col' i) ∧ (∀ i, i < u.heap.size → col' i = 0 → w.heap[i]? = u.heap[i]?) ∧ Below V.heap.size V w ∧ u.heap.size ≤ w.heap.size := by
  obtain ⟨c2, h2, h3⟩ := h.swap.step1 t hN hV hs
  exact ⟨c2, h2.swap, h3⟩
theorem Away.to {z : Nat} {col2 : Nat → Nat} (h : Away B col R g P z) (hc : col2 z = col z) : Away B col2 R g P z := by
  rcases h with h | ⟨h1, h2⟩
  · exact .inl h
  · exact .inr ⟨hc.trans h1, h2⟩
end
theorem GoodIs.same {σ σ2 : MS} {ws : List Nat} {b l c p t b' l' c' p' t' : Int} {v v' : Bool} (h : GoodIs σ ws b l c p t v b' l' c' p' t' v') (e1 : σ2.pg = σ.pg) (e2 : σ2.f = σ.f) : GoodIs σ2 ws b l c p t v b' l' c' p' t' v' := by
  have ha : aliveB σ2 b l c p t v = aliveB σ b l c p t v := by unfold aliveB tagI; rw [e1, e2]
  unfold GoodIs at *
  rw [ha]
  exact h
/-- What a store of what is good of a capability does. -/
theorem hst_any {b l c p t d m n q r pb pl : Int} (h0 : 0 ≤ c) (h2 : 0 ≤ d ∧ d ≤ 1023 ∧ 1 ≤ m ∧ m ≤ 1024 - d ∧ d - 16 ≤ n ∧ n ≤ d + 80 ∧ 0 ≤ n ∧ 0 ≤ q ∧ q ≤ 31 ∧ 1 ≤ r ∧ r ≤ 2) :
    (goodB d m r pb pl = true → ∃ E σ, HST b l c p t true d m n q r true E σ) ∧ (∃ E σ, HST b l c p t true 0 0 0 0 0 false E σ) := by
  constructor
  · intro hg
    by_cases h : slotE s37b b l c p t true 8 = 0
    · have ha := few_alive h2
      have hr : r = 1 := by
        simp only [goodB, Bool.and_eq_true, decide_eq_true_eq] at hg
        exact hg.1
      rw [decide_eq_true hr] at ha
      have hk : capOkB d m n q r = true := by
        have hm : mayB d m = true := mayB_iff.2 (by omega)
        simp only [capOkB, pmayB, hm, Bool.true_and, Bool.and_eq_true, decide_eq_true_eq]
        omega
      obtain ⟨C, rfl⟩ : ∃ k : Nat, c = k := ⟨c.toNat, by omega⟩
      obtain ⟨L1, rfl⟩ : ∃ k : Nat, d = k := ⟨d.toNat, by omega⟩
      obtain ⟨L2, rfl⟩ : ∃ k : Nat, m = k := ⟨m.toNat, by omega⟩
      obtain ⟨L4, rfl⟩ : ∃ k : Nat, q = k := ⟨q.toNat, by omega⟩
      obtain ⟨L5, rfl⟩ : ∃ k : Nat, r = k := ⟨r.toNat, by omega⟩
      obtain ⟨LD, hLD⟩ : ∃ k : Nat, n - L1 + 1048576 = k := ⟨(n - L1 + 1048576).toNat, by omega⟩
      exact ⟨_, _, hst_yes b l p t C true L1 L2 LD L4 L5 n h ha hk hLD⟩
    · exact ⟨_, _, hst_no b l c p t true d m n q r true h⟩
  · by_cases h : slotE s37b b l c p t true 8 = 0
    · obtain ⟨C, rfl⟩ : ∃ k : Nat, c = k := ⟨c.toNat, by omega⟩
      exact ⟨_, _, hst_dead b l p t C true h⟩
    · exact ⟨_, _, hst_no b l c p t true 0 0 0 0 0 false h⟩
end Go.Proofs.YtnfcpohbdkionaaGreatDoor
namespace Go.Proofs.YtnfcpohbdkionaaGreatDoor
set_option maxRecDepth 100000
open Go.RowKit Go.ChangeMaps Go.MapKept
set_option linter.unusedVariables false
set_option linter.unusedSimpArgs false
/-- Bytes that are, as long as their block is as it was, the string s; and an error. -/
def RDPost (s : ByteArray) (RD : Int) (u : World) (e : Ending) (w' : World) : Prop :=
  ∃ (A : Option Addr) (ln cp D : Nat), e = .returned (.tuple #[.slice A ln cp, .int .i64 RD]) ∧ Below u.heap.size u w' ∧ u.heap.size ≤ D ∧ ∀ w2, w'.heap.size ≤ w2.heap.size → (D < w'.heap.size → w2.heap[D]? = w'.heap[D]?) → (convert 38 9 (.slice A ln cp)).run Tryz.prog w2 = .ok (.string s) w2
theorem rd_any (σ : MS) (b l p t : Int) (c : Nat) (v : Bool) : ∃ (s : ByteArray) (RD : Int), ∀ (u : World) (B : Nat) (col : Nat → Nat) (M : Nat), MEM B col M u σ → Calls Tryz.prog 15 #[.pointer (some ⟨M, 0, none⟩), .agg #[.int .i64 b, .int .i64 l, .int .i64 c, .int .i64 p, .int .i64 t, .bool v], .int .i64 3] u (RDPost s RD u) := by
  by_cases h : accE σ b l c p t v 3 1 = 0
  · refine ⟨strU (fun j => σ.c (c + j)) 3, 0, fun u B col M hm => (ckload_yes b l p t c 3 v hm (by decide) h).mono ?_⟩
    rintro e w' ⟨D, rfl, hD, hP, hb⟩
    exact ⟨_, _, _, D, rfl, hb, hD, fun w2 h2 h3 => conv_row ((hP.row (fun i _ => rfl)).keep h2 (h3 (hP.row (fun i _ => rfl)).1)) 3⟩
  · refine ⟨ByteArray.empty, accE σ b l c p t v 3 1, fun u B col M hm => (ckload_no _ b l c p t v 3 hm rfl h).mono ?_⟩
    rintro e w' ⟨rfl, hb⟩
    exact ⟨none, 0, 0, u.heap.size, rfl, hb, Nat.le_refl _, fun w2 _ _ => run_convert_bytes_nil (P := Tryz.prog) w2 38 5 Tryz.underlying38 Tryz.underlying5 0 0 9 Tryz.underlying9⟩
/-- What a store of two bytes does, whoever does it. -/
theorem wr_any (σ : MS) (b l p t : Int) (c : Nat) (v : Bool) (f : Nat → Nat) (hf : ∀ i, i < 2 → f i < 256) : ∃ (E : Int) (σ3 : MS), σ3.pg = σ.pg ∧ σ3.f = σ.f ∧ ∀ (u : World) (B : Nat) (col : Nat → Nat) (M : Nat) (D cb : Nat), MEM B col M u σ → RowU D 2 u f → col D = 0 → 2 ≤ cb → Calls Tryz.prog 16 #[.pointer (some ⟨M, 0, none⟩), .agg #[.int .i64 b, .int .i64 l, .int .i64 c, .int .i64 p, .int .i64 t, .bool v], .slice (some ⟨D, 0, none⟩) 2 cb] u fun e w' => e = .returned (.int .i64 E) ∧ MStep B col M u σ3 w' := by
  by_cases h : accE σ b l c p t v 2 2 = 0
  · refine ⟨0, wrS σ c 2 f, rfl, rfl, fun u B col M D cb hm hr h0 hcb => ?_⟩
    exact ckstore_yes b l p t c 2 D 0 cb v f hm (by decide) hcb h (fun i hi => by rw [Nat.zero_add]; exact (hr.2 i hi).1) hf h0
  · refine ⟨accE σ b l c p t v 2 2, σ, rfl, rfl, fun u B col M D cb hm hr h0 hcb => ?_⟩
    exact (ckstore_no _ b l c p t v (some ⟨D, 0, none⟩) 2 cb hm rfl h).mono (fun e w' hw => ⟨hw.1, MStep.of_later hm hw.2⟩)
end Go.Proofs.YtnfcpohbdkionaaGreatDoor
