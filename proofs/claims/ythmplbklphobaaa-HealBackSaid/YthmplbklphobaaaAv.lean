/- append of one slice, as one step of a region. No condition. -/
import Derived.Test.YthmplbklphobaaaBase
import Derived.Test.YthmplbklphobaaaSol
namespace Go.Proofs.Ythmplbklphobaaa
open Go.RowKit Go.Deep
set_option linter.unusedVariables false
set_option maxRecDepth 20000

section
variable {P : Program} {ops : Array Oper} {Q : Exit → Act → World → Prop}
/-- append of one slice, as one step of a region. -/
theorem step_appV {w : World} {base : Nat} {v u : Value} {vs : List Value} {o : Oper} {a : Act} {K : Act → World → Prop} {E : Prop} (hgd : o.guard = none) (s x : Operand) (t : TypeId)
    (ho : o.op = .call { callee := .builtin .append, args := #[s, x], argTypes := #[t, t] })
    (ht : Try.prog.underlying t = some (.slice 22)) (hs : a.eval s = v) (h : OwnV w base v vs) (ad : Addr) (hx : a.eval x = .slice (some ad) 1 1) (hu : w.cell? ad = some u) (hsp : ad.spot = none) (h1 : u.oneCell' = true) (hlen : vs.length ≤ 1000000) (hb : base ≤ w.heap.size)
    (hQ : ∀ A1 n1 c1 w1, AppV w base v vs u (.slice A1 n1 c1) w1 → K (a.put o.dst (.slice A1 n1 c1)) w1) : if Region.wanted o (yielded ops a.tmps) = true then Oper.wp Try.prog o a w K Q else E := by
  have hw : Region.wanted o (yielded ops a.tmps) = true := by simp [Region.wanted, hgd]
  rw [if_pos hw]
  obtain ⟨v1, w1, hr, h1⟩ := run_appV t o.type ht h ad hu hsp h1 hlen hb
  obtain ⟨A1, c1, rfl⟩ := h1.own.form
  have hq := hQ A1 _ c1 w1 h1
  unfold Oper.wp
  simp only [execOp, ho, resolve, invoke, builtin, Sem.run_bind, Sem.run_pure, Result.andThen_ok, List.map_toArray, List.map_cons, List.map_nil, hs, hx, hr]
  exact hq
end
end Go.Proofs.Ythmplbklphobaaa
