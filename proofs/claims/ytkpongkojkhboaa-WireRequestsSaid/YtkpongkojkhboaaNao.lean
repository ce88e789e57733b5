/- Arguments opened to cells: names by value. No condition. -/
import Derived.Test.YtkpongkojkhboaaOp
import Derived.Test.YtkpongkojkhboaaNam
import Derived.Lib.SmallJoins
namespace Go.Proofs.Ytkpongkojkhboaa
open Go.ChangeShapes Go.WideShapes Go.RowKit Go.Deep Go.Joins
set_option linter.unusedVariables false
set_option maxRecDepth 100000

section
variable {H : Type} {enc : TypeId × Value → H} {w : World} {base : Nat} {spare : Nat → Bool} {held : Bool} {fuel : Nat} {v : Value}
theorem open_sh {cs : List Value} {y : DataW H × List MemPlace} (h : DataW.trod enc Try.prog w base spare held fuel 26 cs = some y) : ∃ s, s < N96 ∧ .agg cs.toArray = shV s := by
  obtain ⟨n, hl, hf⟩ := open_parts Try.underlying26 h
  rw [sh_cells] at hl
  match cs, hl with
  | [v0, v1, v2, v3], _ =>
    obtain ⟨y0, h0⟩ := hf 0 23 0 _ rfl sh_one.1
    obtain ⟨y1, h1⟩ := hf 1 24 1 _ rfl sh_one.2
    obtain ⟨y2, h2⟩ := hf 2 24 2 _ rfl sh_one.2
    obtain ⟨y3, h3⟩ := hf 3 23 3 _ rfl sh_one.1
    simp only [List.drop_zero, List.drop_succ_cons, List.take_succ_cons, List.take_zero] at h0 h1 h2 h3
    obtain ⟨a, e0, _, w0⟩ := DataW.trod_int Try.underlying23 h0
    obtain ⟨b, e1, _, w1⟩ := DataW.trod_int Try.underlying24 h1
    obtain ⟨c, e2, _, w2⟩ := DataW.trod_int Try.underlying24 h2
    obtain ⟨d, e3, _, w3⟩ := DataW.trod_int Try.underlying23 h3
    simp only [List.cons.injEq, and_true] at e0 e1 e2 e3
    subst e0 e1 e2 e3
    obtain ⟨a0, rfl, b0⟩ := of_u32 w0
    obtain ⟨a1, rfl, b1⟩ := of_u16 w1
    obtain ⟨a2, rfl, b2⟩ := of_u16 w2
    obtain ⟨a3, rfl, b3⟩ := of_u32 w3
    refine ⟨mkN a0 a1 a2 a3, mkN_lt b0 b1 b2 b3, ?_⟩
    unfold shV
    rw [cO_mk b1 b2 b3, cS_mk b1 b2 b3, cL_mk b2 b3, cG_mk b3]
/-- A name by value. -/
theorem open_shv {r : Reach} {b0 : Nat} {d : DataW H} {p : List MemPlace} (hv : Value.okWide Try.prog w r b0 26 v) (h : DataW.Trod enc Try.prog w base spare held 26 v d p) : ∃ s, s < N96 ∧ v = shV s := by
  obtain ⟨cs, rfl, hsz⟩ := okWide_struct Try.underlying26 hv
  obtain ⟨l⟩ := cs
  obtain ⟨fuel, hf⟩ := h
  exact open_sh (cs := l) hf
end
end Go.Proofs.Ytkpongkojkhboaa
