/- An argument of bytes opened, with its room. No condition. -/
import Derived.Test.YtkpongkojkhboaaOp
import Derived.Test.YtkpongkojkhboaaBy
namespace Go.Proofs.Ytkpongkojkhboaa
open Go.ChangeShapes Go.WideShapes Go.RowKit
set_option linter.unusedVariables false
set_option maxRecDepth 20000
section
variable {H : Type} {enc : TypeId × Value → H} {w : World} {base : Nat} {spare : Nat → Bool} {held : Bool} {fuel : Nat} {v : Value} {x : DataW H × List MemPlace}
theorem open_btc (h : DataW.trod enc Try.prog w base spare held fuel 27 [v] = some x) : ∃ A m c bs, v = .slice A m c ∧ (Bts w (.slice A m c) bs ∧ m ≤ c) ∧ m ≤ maxLen := by
  obtain ⟨A, m, c, bs, rfl, hb, hm⟩ := open_bts Try.underlying27 Try.underlying5 cells_u8 h
  refine ⟨A, m, c, bs, rfl, ⟨hb, ?_⟩, hm⟩
  rcases open_ints Try.underlying27 Try.underlying5 cells_u8 h with ⟨hcs, _⟩ | ⟨a, len, cap, zs, hcs, _, hl, hm, hz, _, hcell, hwz⟩
  · simp only [List.cons.injEq, and_true] at hcs
    injection hcs with h1 h2 h3
    omega
  · simp only [List.cons.injEq, and_true] at hcs
    injection hcs with h1 h2 h3
    omega
end
theorem cells_slc : Try.prog.cellsOf 27 = 1 := by kernel_rfl
theorem cells_n64 : Try.prog.cellsOf 3 = 1 := by kernel_rfl
end Go.Proofs.Ytkpongkojkhboaa
