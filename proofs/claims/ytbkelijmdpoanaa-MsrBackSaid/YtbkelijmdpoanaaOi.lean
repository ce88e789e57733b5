/- A slice of whole numbers that came in, opened to cells. No condition. -/
import Derived.Test.YtbkelijmdpoanaaOr
import Derived.Test.YtbkelijmdpoanaaMpk
namespace Go.Proofs.Ytbkelijmdpoanaa
open Go.ChangeShapes Go.WideShapes Go.RowKit Go.Deep
set_option linter.unusedVariables false

theorem cells_int : Try.prog.cellsOf 3 = 1 := by kernel_rfl

section
variable {H : Type} {enc : TypeId × Value → H} {w : World} {base : Nat} {spare : Nat → Bool} {held : Bool} {fuel : Nat} {v : Value} {x : DataW H × List MemPlace}

/-- A slice of whole numbers that came in. -/
theorem open_intsl (h : DataW.trod enc Try.prog w base spare held fuel 43 [v] = some x) : ∃ A n c zs, v = .slice A n c ∧ Ints w A n zs ∧ n ≤ maxLen := by
  rcases open_ints Try.underlying43 Try.underlying3 cells_int h with ⟨hcs, _⟩ | ⟨a, len, cap, zs, hcs, _, hl, hm, hz, _, hcell, hwz⟩
  · simp only [List.cons.injEq, and_true] at hcs
    exact ⟨none, 0, 0, [], hcs, ⟨rfl, fun j z hj => by simp at hj⟩, Nat.zero_le _⟩
  · simp only [List.cons.injEq, and_true] at hcs
    have hle : len ≤ zs.length := by rw [hz]; split <;> omega
    refine ⟨some a, len, cap, zs.take len, hcs, ⟨by simp [hle], fun j z hj => ?_⟩, by omega⟩
    rw [List.getElem?_take] at hj
    split at hj
    · have hjl := (List.getElem?_eq_some_iff.1 hj).1
      have hc := hcell j hjl
      have hg : zs.getD j 0 = z := by simp [List.getD, hj]
      rw [hg] at hc
      obtain ⟨B, off, spot⟩ := a
      have hsp : spot = none := by
        have h0 := hcell 0 (by omega)
        simpa [Addr.add] using World.cell?_spot h0
      subst hsp
      rw [add_none] at hc
      exact ⟨B, off, rfl, hc⟩
    · cases hj
end
end Go.Proofs.Ytbkelijmdpoanaa
