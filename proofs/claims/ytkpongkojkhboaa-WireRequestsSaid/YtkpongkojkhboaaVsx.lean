/- Names held against each other where a guard says yes. -/
import Derived.Test.YtkpongkojkhboaaNam
namespace Go.Proofs.Ytkpongkojkhboaa
open Go.RowKit
set_option linter.unusedVariables false
set_option linter.unusedSimpArgs false
set_option maxRecDepth 20000

theorem wpList_seql_want {w : World} {s t : Nat} {ops : Array Oper} {rest : List Oper} {o : Oper} {a : Act} {Q : Exit → Act → World → Prop} (hg : Region.wanted o (yielded ops a.tmps) = true) (x y : Operand) (hop : o.op = Op.binOp .eql 26 x y 26) (hx : a.eval x = shV s) (hy : a.eval y = shV t) (hs : s < N96) (ht : t < N96) (r : Bool) (hr : (s == t) = r)
    (hK : wpList Try.prog ops Q rest (a.put o.dst (.bool r)) w) : wpList Try.prog ops Q (o :: rest) a w := by
  subst hr
  refine BigFrame.wpList_want hg fun K' hK' => ?_
  have hq := sh_equal w hs ht
  have hgd := sh_guard
  unfold Oper.wp
  simp [execOp, hop, hx, hy, eqGuard, binOp, hgd, hq, Result.andThen]
  exact hK' _ _ hK
end Go.Proofs.Ytkpongkojkhboaa
