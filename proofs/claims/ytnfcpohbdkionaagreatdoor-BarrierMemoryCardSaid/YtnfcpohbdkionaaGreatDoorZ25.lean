/- BrC. -/
import Derived.Test.YtnfcpohbdkionaaGreatDoorZ24
import Derived.Test.YtnfcpohbdkionaaGreatDoorZ22
import Derived.Deep.RegionHeld3
namespace Go.Proofs.YtnfcpohbdkionaaGreatDoor
set_option maxRecDepth 100000
open Go.RowKit Go.ChangeMaps Go.MapKept
set_option linter.unusedVariables false
set_option linter.unusedSimpArgs false
theorem CapAt.newB (W : World) (o : Obj) (b l c p t : Int) (v : Bool) (T : TypeId) : CapAt (W.heap.size + 1) ((W.alloc o).alloc (.cells #[.int .i64 b, .int .i64 l, .int .i64 c, .int .i64 p, .int .i64 t, .bool v] T)) b l c p t v := by
  have := CapAt.new (W.alloc o) b l c p t v T
  rwa [show (W.alloc o).heap.size = W.heap.size + 1 by simp] at this
/-- A place: its memory, its registers, its paint. -/
structure BPl (B lo g : Nat) (col : Nat → Nat) (M R P pg : Nat) (W : World) (σ : MS) (V : Nat → Value) (pc : Int) (ws : List Nat) : Prop where
  mem : MEM B col M W σ
  reg : RegAt R g 4 W V
  pt : PtIs lo P pg P W pc ws
  cr : col R = 0 ∧ col g = 0
  cp : ∀ i, lo ≤ i → i ≤ P → col i = 0
  br : B ≤ R ∧ B ≤ g ∧ B ≤ lo
  df : ∀ i, lo ≤ i → i ≤ P → i ≠ g ∧ i ≠ R
/-- What is good of a capability: it, or none. -/
def GoodIs (σ : MS) (ws : List Nat) (b l c p t : Int) (v : Bool) (b' l' c' p' t' : Int) (v' : Bool) : Prop :=
  (aliveB σ b l c p t v = true ∧ SomeR 16384 (spF b l 16) (spN b l 16) ws false ∧ b' = b ∧ l' = l ∧ c' = c ∧ p' = p ∧ t' = t ∧ v' = v) ∨
  ((aliveB σ b l c p t v = false ∨ (aliveB σ b l c p t v = true ∧ SomeR 16384 (spF b l 16) (spN b l 16) ws true)) ∧ b' = 0 ∧ l' = 0 ∧ c' = 0 ∧ p' = 0 ∧ t' = 0 ∧ v' = false)
theorem dead_zero (σ : MS) : aliveB σ 0 0 0 0 0 false = false := rfl
theorem GoodIs.zero (σ : MS) (ws : List Nat) : GoodIs σ ws 0 0 0 0 0 false 0 0 0 0 0 false := .inr ⟨.inl (dead_zero σ), rfl, rfl, rfl, rfl, rfl, rfl⟩
theorem GoodIs.again {σ : MS} {ws : List Nat} {b l c p t b' l' c' p' t' : Int} {v v' : Bool} (h : GoodIs σ ws b l c p t v b' l' c' p' t' v') : GoodIs σ ws b' l' c' p' t' v' b' l' c' p' t' v' := by
  rcases h with ⟨h1, h2, rfl, rfl, rfl, rfl, rfl, rfl⟩ | ⟨-, rfl, rfl, rfl, rfl, rfl, rfl⟩
  · exact .inl ⟨h1, h2, rfl, rfl, rfl, rfl, rfl, rfl⟩
  · exact GoodIs.zero σ ws
theorem GoodIs.may {σ : MS} {ws : List Nat} {b l c p t b' l' c' p' t' : Int} {v v' : Bool} (h : GoodIs σ ws b l c p t v b' l' c' p' t' v') : capMayB b' l' c' p' t' v' = true := by
  rcases h with ⟨h1, h2, rfl, rfl, rfl, rfl, rfl, rfl⟩ | ⟨-, rfl, rfl, rfl, rfl, rfl, rfl⟩
  · unfold aliveB at h1
    simp only [Bool.and_eq_true] at h1
    first | exact h1.1.2 | exact h1.1.1.2 | exact h1.2.1 | exact h1.1.2.1
  · decide
section
variable {B lo g : Nat} {col : Nat → Nat} {M R P pg : Nat} {W : World} {σ : MS} {V : Nat → Value} {pc : Int} {ws : List Nat}
theorem BPl.later {w' : World} (h : BPl B lo g col M R P pg W σ V pc ws) (hb : Below W.heap.size W w') : BPl B lo g col M R P pg w' σ V pc ws :=
  ⟨h.mem.later hb, h.reg.below hb, h.pt.later hb, h.cr, h.cp, h.br, h.df⟩
theorem BPl.put {w' : World} {V' : Nat → Value} (h : BPl B lo g col M R P pg W σ V pc ws) (hr : RegAt R g 4 w' V') (hk : Keeps g W w') : BPl B lo g col M R P pg w' σ V' pc ws :=
  ⟨h.mem.keep (hk.1.mono h.br.2.1) (fun i hi hc => hk.2 i hi (fun e => hc (by rw [e]; exact h.cr.2))), hr, h.pt.keep hk.1.size (fun i i1 i2 => hk.2 i (by have := h.pt.2.1.2; omega) (h.df i i1 i2).1), h.cr, h.cp, h.br, h.df⟩
theorem brgood_any {b l c p t b' l' c' p' t' : Int} {v v' : Bool} (h : BPl B lo g col M R P pg W σ V pc ws) (hg : GoodIs σ ws b l c p t v b' l' c' p' t' v') :
    Calls Tryz.prog 26 #[.agg #[.pointer (some ⟨M, 0, none⟩), .pointer (some ⟨R, 0, none⟩), .pointer (some ⟨P, 0, none⟩)], .agg #[.int .i64 b, .int .i64 l, .int .i64 c, .int .i64 p, .int .i64 t, .bool v]] W fun e w' => e = .returned (.agg #[.int .i64 b', .int .i64 l', .int .i64 c', .int .i64 p', .int .i64 t', .bool v']) ∧ Below W.heap.size W w' := by
  rcases hg with ⟨h1, h2, rfl, rfl, rfl, rfl, rfl, rfl⟩ | ⟨h1 | ⟨h1, h2⟩, rfl, rfl, rfl, rfl, rfl, rfl⟩
  · exact brgood_yes b' l' c' p' t' v' h.mem h1 h.pt h2 h.mem.tz
  · exact brgood_dead b l c p t v h.mem h1
  · exact brgood_paint b l c p t v h.mem h1 h.pt h2 h.mem.tz
set_option maxHeartbeats 1600000 in
theorem brget_in (q : Nat) (x0 x1 x2 x3 x4 : Int) (x5 : Bool) (b' l' c' p' t' : Int) (v' : Bool) (h : BPl B lo g col M R P pg W σ V pc ws) (hq : q < 4) (hv : V (q * 6) = .int .i64 x0 ∧ V (q * 6 + 1) = .int .i64 x1 ∧ V (q * 6 + 2) = .int .i64 x2 ∧ V (q * 6 + 3) = .int .i64 x3 ∧ V (q * 6 + 4) = .int .i64 x4 ∧ V (q * 6 + 5) = .bool x5) (hg : GoodIs σ ws x0 x1 x2 x3 x4 x5 b' l' c' p' t' v') :
    Calls Tryz.prog 18 #[.agg #[.pointer (some ⟨M, 0, none⟩), .pointer (some ⟨R, 0, none⟩), .pointer (some ⟨P, 0, none⟩)], .int .i64 (q : Int)] W fun e w' => e = .returned (.tuple #[.agg #[.int .i64 b', .int .i64 l', .int .i64 c', .int .i64 p', .int .i64 t', .bool v'], .int .i64 0]) ∧ Below W.heap.size W w' := by
  have H := Lib.hid h
  have HQ := Lib.hid hq
  have HV := Lib.hid hv
  have HG := Lib.hid hg
  clear hq hv hg
  have HX := Lib.hid ((PlAt.new W M R P 31).below (alc0 _ (.cells #[.int .i64 0, .int .i64 0, .int .i64 0, .int .i64 0, .int .i64 0, .bool false] 25)))
  have HZ := Lib.hid (CapAt.newB W (.cells #[.pointer (some ⟨M, 0, none⟩), .pointer (some ⟨R, 0, none⟩), .pointer (some ⟨P, 0, none⟩)] 31) 0 0 0 0 0 false 25)
  have HB := Lib.hid (alc (alc0 W (.cells #[.pointer (some ⟨M, 0, none⟩), .pointer (some ⟨R, 0, none⟩), .pointer (some ⟨P, 0, none⟩)] 31)) (.cells #[.int .i64 0, .int .i64 0, .int .i64 0, .int .i64 0, .int .i64 0, .bool false] 25))
  clear h
  go_enter Tryz.func18, Tryz.ntmps18
  go_upto_region 1 with (fail)
  generalize hw1 : (W.alloc (.cells #[.pointer (some ⟨M, 0, none⟩), .pointer (some ⟨R, 0, none⟩), .pointer (some ⟨P, 0, none⟩)] 31)).alloc (.cells #[.int .i64 0, .int .i64 0, .int .i64 0, .int .i64 0, .int .i64 0, .bool false] 25) = w1 at *
  clear hw1
  obtain ⟨-, k0, k1, k2⟩ := HX.out
  go_wp2_with fail
  with_reducible refine Calls.mono (rget_in R g 4 q w1 V (H.out.later HB.out).reg HQ.out x0 x1 x2 x3 x4 x5 HV.out.1 HV.out.2.1 HV.out.2.2.1 HV.out.2.2.2.1 HV.out.2.2.2.2.1 HV.out.2.2.2.2.2) ?_
  rintro e w2 ⟨rfl, hb⟩
  have HX2 := Lib.hid (HX.out.below hb)
  have HZ2 := Lib.hid (HZ.out.below hb)
  have HB2 := Lib.hid (thn HB.out hb)
  clear hb k0 k1 k2 HX HZ HB
  go_upto_region 2 with (fail)
  have hbq := alc0 w2 (.cells #[.int .i64 x0, .int .i64 x1, .int .i64 x2, .int .i64 x3, .int .i64 x4, .bool x5] 25)
  have HY3 := Lib.hid (CapAt.new w2 x0 x1 x2 x3 x4 x5 25)
  have HX3 := Lib.hid (HX2.out.below hbq)
  have HZ3 := Lib.hid (HZ2.out.below hbq)
  have HB3 := Lib.hid (thn HB2.out hbq)
  clear hbq HX2 HZ2 HB2
  generalize hw3 : w2.alloc (.cells #[.int .i64 x0, .int .i64 x1, .int .i64 x2, .int .i64 x3, .int .i64 x4, .bool x5] 25) = w3 at *
  generalize w2.heap.size = y at *
  clear hw3
  obtain ⟨-, k0, k1, k2⟩ := HX3.out
  obtain ⟨-, y0, y1, y2, y3, y4, y5, -⟩ := HY3.out
  go_wp2_with fail
  with_reducible refine Calls.mono (brgood_any (H.out.later HB3.out) HG.out) ?_
  rintro e w4 ⟨rfl, hb⟩
  have HZ4 := Lib.hid (HZ3.out.below hb)
  have HB4 := Lib.hid (thn HB3.out hb)
  clear hb k0 k1 k2 y0 y1 y2 y3 y4 y5
  obtain ⟨-, z0, z1, z2, z3, z4, z5, -⟩ := HZ4.out
  obtain ⟨f0, f1, f2, f3, f4, f5⟩ := HZ4.out.fzB
  go_wp2
  refine bodyPost_ret (v := .tuple #[.agg #[.int .i64 b', .int .i64 l', .int .i64 c', .int .i64 p', .int .i64 t', .bool v'], .int .i64 0]) (by simp [results, Tryz.results18, go_sem, z0, z1, z2, z3, z4, z5]) rfl ⟨rfl, ?_⟩
  exact below_set6 HB4.out (by omega) _ _ _ _ _ _
end
end Go.Proofs.YtnfcpohbdkionaaGreatDoor
