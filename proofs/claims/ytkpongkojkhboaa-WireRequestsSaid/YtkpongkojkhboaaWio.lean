/- Arguments opened to cells: the document's request and reply of layer 15, by value. No condition. -/
import Derived.Test.YtkpongkojkhboaaNao
import Derived.Test.YtkpongkojkhboaaOcp
import Derived.Test.YtkpongkojkhboaaWja
import Derived.Lib.SmallJoins
namespace Go.Proofs.Ytkpongkojkhboaa
open Go.ChangeShapes Go.WideShapes Go.RowKit Go.Deep Go.Joins
set_option linter.unusedVariables false
set_option maxRecDepth 100000

theorem cells_rqv : Try.prog.cellsOf 29 = 8 := by kernel_rfl
theorem cells_rpv : Try.prog.cellsOf 45 = 3 := by kernel_rfl
theorem cells_u64w : Try.prog.cellsOf 22 = 1 := by kernel_rfl
theorem cells_u16w : Try.prog.cellsOf 24 = 1 := by kernel_rfl
theorem cells_n64w : Try.prog.cellsOf 3 = 1 := by kernel_rfl
theorem cells_slcw : Try.prog.cellsOf 27 = 1 := by kernel_rfl
section
variable {H : Type} {enc : TypeId × Value → H} {w : World} {base : Nat} {spare : Nat → Bool} {held : Bool} {fuel : Nat} {v : Value}
theorem open_rq {cs : List Value} {y : DataW H × List MemPlace} (h : DataW.trod enc Try.prog w base spare held fuel 29 cs = some y) : ∃ q u, q.Fit ∧ .agg cs.toArray = rqV q u ∧ Bts w u q.data := by
  obtain ⟨n, hl, hf⟩ := open_parts Try.underlying29 h
  rw [cells_rqv] at hl
  match cs, hl with
  | [v0, v1, v2, v3, v4, v5, v6, v7], _ =>
    obtain ⟨y0, h0⟩ := hf 0 22 0 _ rfl cells_u64w
    obtain ⟨y1, h1⟩ := hf 1 3 1 _ rfl cells_n64w
    obtain ⟨y2, h2⟩ := hf 2 26 2 _ rfl sh_cells
    obtain ⟨y3, h3⟩ := hf 3 24 6 _ rfl cells_u16w
    obtain ⟨y4, h4⟩ := hf 4 27 7 _ rfl cells_slcw
    simp only [List.drop_zero, List.drop_succ_cons, List.take_succ_cons, List.take_zero] at h0 h1 h2 h3 h4
    obtain ⟨a, e0, _, w0⟩ := DataW.trod_int Try.underlying22 h0
    obtain ⟨b, e1, _, w1⟩ := DataW.trod_int Try.underlying3 h1
    obtain ⟨s, hs, e2⟩ := open_sh h2
    obtain ⟨c, e3, _, w3⟩ := DataW.trod_int Try.underlying24 h3
    obtain ⟨A, m, d, bs, e4, ⟨hb, hr⟩, hm⟩ := open_btc h4
    simp only [List.cons.injEq, and_true] at e0 e1 e3
    simp only [shV, Value.agg.injEq, Array.mk.injEq, List.cons.injEq, and_true] at e2
    obtain ⟨f1, f2, f3, f4⟩ := e2
    subst e0 e1 e3 e4 f1 f2 f3 f4
    have b0 := bounds_u64 w0
    obtain ⟨a0, rfl⟩ : ∃ a0 : Nat, a = a0 := ⟨a.toNat, by omega⟩
    obtain ⟨c0, rfl, b3⟩ := of_u16 w3
    exact ⟨⟨a0, b, s, c0, bs⟩, .slice A m d, ⟨by show a0 < _; omega, hs, b3⟩, rfl, hb⟩
/-- The document's request by value. -/
theorem open_rqv {r : Reach} {b0 : Nat} {d : DataW H} {p : List MemPlace} (hv : Value.okWide Try.prog w r b0 29 v) (h : DataW.Trod enc Try.prog w base spare held 29 v d p) : ∃ q u, q.Fit ∧ v = rqV q u ∧ Bts w u q.data := by
  obtain ⟨cs, rfl, hsz⟩ := okWide_struct Try.underlying29 hv
  obtain ⟨l⟩ := cs
  obtain ⟨fuel, hf⟩ := h
  exact open_rq (cs := l) hf
theorem open_rp {cs : List Value} {y : DataW H × List MemPlace} (h : DataW.trod enc Try.prog w base spare held fuel 45 cs = some y) : ∃ p u, p.num < 18446744073709551616 ∧ .agg cs.toArray = rpV p u ∧ Bts w u p.data := by
  obtain ⟨n, hl, hf⟩ := open_parts Try.underlying45 h
  rw [cells_rpv] at hl
  match cs, hl with
  | [v0, v1, v2], _ =>
    obtain ⟨y0, h0⟩ := hf 0 22 0 _ rfl cells_u64w
    obtain ⟨y1, h1⟩ := hf 1 3 1 _ rfl cells_n64w
    obtain ⟨y2, h2⟩ := hf 2 27 2 _ rfl cells_slcw
    simp only [List.drop_zero, List.drop_succ_cons, List.take_succ_cons, List.take_zero] at h0 h1 h2
    obtain ⟨a, e0, _, w0⟩ := DataW.trod_int Try.underlying22 h0
    obtain ⟨b, e1, _, w1⟩ := DataW.trod_int Try.underlying3 h1
    obtain ⟨A, m, d, bs, e4, ⟨hb, hr⟩, hm⟩ := open_btc h2
    simp only [List.cons.injEq, and_true] at e0 e1
    subst e0 e1 e4
    have b0 := bounds_u64 w0
    obtain ⟨a0, rfl⟩ : ∃ a0 : Nat, a = a0 := ⟨a.toNat, by omega⟩
    exact ⟨⟨a0, b, bs⟩, .slice A m d, by show a0 < _; omega, rfl, hb⟩
/-- The document's reply by value. -/
theorem open_rpv {r : Reach} {b0 : Nat} {d : DataW H} {p : List MemPlace} (hv : Value.okWide Try.prog w r b0 45 v) (h : DataW.Trod enc Try.prog w base spare held 45 v d p) : ∃ p u, p.num < 18446744073709551616 ∧ v = rpV p u ∧ Bts w u p.data := by
  obtain ⟨cs, rfl, hsz⟩ := okWide_struct Try.underlying45 hv
  obtain ⟨l⟩ := cs
  obtain ⟨fuel, hf⟩ := h
  exact open_rp (cs := l) hf
end
end Go.Proofs.Ytkpongkojkhboaa
