/- A slice of a slice, at the operation. -/
import Derived.Test.YtfeikmmojilmbaaDoorGe
namespace Go.Proofs.YtfeikmmojilmbaaDoor
open Go.RowKit
/-- a slice of a slice, at the operation -/
theorem wp_cut {ops : Array Oper} {rest : List Oper} {o : Oper} {a : Act} {Q : Exit → Act → World → Prop} {w : World} (hg : o.guard = none) (t : TypeId) (x : Operand) (lo hi mx : Option Operand) (ho : o.op = .slice t x lo hi mx)
    (v : Value) (l h m : Option Value) (hx : a.eval x = v) (hl : lo.map a.eval = l) (hh : hi.map a.eval = h) (hm : mx.map a.eval = m) {u : Value} (hr : ∀ W, (Instr.sliceAt t v l h m).run Tryd.prog W = .ok u W)
    (hk : wpList Tryd.prog ops Q rest (a.put o.dst u) w) : wpList Tryd.prog ops Q (o :: rest) a w := by
  refine wpList_plain hg fun K hK => ?_
  unfold Oper.wp execOp
  simp only [ho, Sem.run_bind, Sem.run_pure, Result.andThen_ok, hx, hl, hh, hm, hr]
  exact hK _ _ hk
end Go.Proofs.YtfeikmmojilmbaaDoor
