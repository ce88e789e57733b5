/- Names held against each other: laws at the operation. -/
import Derived.Test.YtndghapdpfgmoaaVmp
namespace Go.Proofs.Ytndghapdpfgmoaa
open Go.RowKit
set_option linter.unusedVariables false
set_option linter.unusedSimpArgs false
set_option maxRecDepth 20000

theorem sh_equal (w : World) {s t : Nat} (hs : s < N96) (ht : t < N96) : (Op.equal 26 (shV s) (shV t)).run Try.prog w = .ok (s == t) w := by
  obtain ⟨r, h1, h2⟩ := run_equal_deep w (P := Try.prog) (m := 2) (by omega) (k := 26) (by kernel_rfl) sh_wide (key_kl hs) (key_kl ht)
  rw [h1]
  congr 1
  by_cases e : s = t
  · subst e
    rw [h2.2 rfl]
    simp
  · cases r
    · simp [e]
    · exact absurd (kl_inj hs ht (h2.1 rfl)) e
theorem sh_guard : Try.prog.eqGuardType Try.prog.depth 26 = false := by kernel_rfl
section
variable {w : World} {s t : Nat} {ops : Array Oper} {rest : List Oper} {o : Oper} {a : Act} {Q : Exit → Act → World → Prop}
theorem run_sneq (w : World) (hs : s < N96) (ht : t < N96) (x y : Operand) : (do eqGuard .neq 26 x y (shV s) (shV t); binOp .neq 26 (shV s) (shV t)).run Try.prog w = .ok (.bool (!(s == t))) w := by
  have hq := sh_equal w hs ht
  have hg := sh_guard
  simp [eqGuard, binOp, hg, hq, Sem.run_bind, Result.andThen]
theorem wpList_sneq (hg : o.guard = none) (x y : Operand) (hop : o.op = Op.binOp .neq 26 x y 26) (hx : a.eval x = shV s) (hy : a.eval y = shV t) (hs : s < N96) (ht : t < N96) (r : Bool) (hr : (!(s == t)) = r)
    (hK : wpList Try.prog ops Q rest (a.put o.dst (.bool r)) w) : wpList Try.prog ops Q (o :: rest) a w := by
  subst hr
  refine wpList_plain hg fun K' hK' => ?_
  have hq := sh_equal w hs ht
  have hgd := sh_guard
  unfold Oper.wp
  simp [execOp, hop, hx, hy, eqGuard, binOp, hgd, hq, Result.andThen]
  exact hK' _ _ hK
end
end Go.Proofs.Ytndghapdpfgmoaa
