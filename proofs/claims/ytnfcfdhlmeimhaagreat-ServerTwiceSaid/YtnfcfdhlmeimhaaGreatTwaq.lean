/- Names held against each other: laws at the operation. -/
import Derived.Test.YtnfcfdhlmeimhaaGreatTwai
namespace Go.Proofs.YtnfcfdhlmeimhaaGreat
open Go.RowKit
set_option linter.unusedVariables false
set_option linter.unusedSimpArgs false
set_option maxRecDepth 20000

section
variable {w : World} {s t : Nat} {ops : Array Oper} {rest : List Oper} {o : Oper} {a : Act} {Q : Exit → Act → World → Prop}
theorem wpList_sneq (hg : o.guard = none) (x y : Operand) (hop : o.op = Op.binOp .neq 53 x y 53) (hx : a.eval x = shV s) (hy : a.eval y = shV t) (hs : s < N96) (ht : t < N96) (r : Bool) (hr : (!(s == t)) = r)
    (hK : wpList Tryz.prog ops Q rest (a.put o.dst (.bool r)) w) : wpList Tryz.prog ops Q (o :: rest) a w := by
  subst hr
  refine wpList_plain hg fun K' hK' => ?_
  have hq := sh_equal w hs ht
  have hgd := sh_guard
  unfold Oper.wp
  simp [execOp, hop, hx, hy, eqGuard, binOp, hgd, hq, Result.andThen]
  exact hK' _ _ hK
end
end Go.Proofs.YtnfcfdhlmeimhaaGreat
