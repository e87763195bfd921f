import Derived.Test.YtgidnmjeifgciaaDoorMsH
import Derived.WalkKit
import Derived.Deep.MidRow
import Derived.Deep.DeepCutAuto
namespace Go.Proofs.YtgidnmjeifgciaaDoor
set_option maxRecDepth 100000
open Go.RowKit Go.ChangeMaps Go.MapKept
theorem mem_eqG (x y : Operand) (W : World) : (eqGuard .eql 34 x y (.agg zeroR.l.toArray) (.agg zeroR.l.toArray)).run Tryd.prog W = .ok () W := by
  have h := Tryd.eqGuardType34
  generalize zeroR.l.toArray = Z
  simp [eqGuard, h, Sem.run_bind, run_program]
theorem mem_eqB (W : World) : (binOp .eql 34 (.agg zeroR.l.toArray) (.agg zeroR.l.toArray)).run Tryd.prog W = .ok (.bool true) W := by
  have h := mem_eq W
  generalize zeroR.l.toArray = Z at *
  simp only [binOp]
  simp [Op.equal, Op.maxDepth, h]
/-- Two values are compared that are equal. -/
theorem wpList_eqm_gd {P : Program} {ops : Array Oper} {rest : List Oper} {op : Oper} {a : Act} {w : World} {Q : Exit → Act → World → Prop} (hw : Region.wanted op (yielded ops a.tmps) = true) (T T2 : TypeId) (x y : Operand) (ho : op.op = .binOp .eql T x y T2)
    (vx vy : Value) (hx : a.eval x = vx) (hy : a.eval y = vy) (hg : (eqGuard .eql T x y vx vy).run P w = .ok () w) (hb : (binOp .eql T vx vy).run P w = .ok (.bool true) w)
    (h : wpList P ops Q rest (a.put op.dst (.bool true)) w) : wpList P ops Q (op :: rest) a w :=
  wpList_step fun K hK => by
    rw [if_pos hw]
    unfold Oper.wp execOp
    simp only [ho, hx, hy, Sem.run_bind, hg, hb, Result.andThen_ok, Sem.run_pure]
    exact hK _ _ h
end Go.Proofs.YtgidnmjeifgciaaDoor
