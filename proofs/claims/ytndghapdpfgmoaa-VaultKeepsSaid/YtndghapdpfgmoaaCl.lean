/- bytes.Clone, the Writer's Bytes, and the document's own answers for package pack, each as a contract over memory. -/
import Derived.Test.YtndghapdpfgmoaaWr
namespace Go.Proofs.Ytndghapdpfgmoaa
open Go.RowKit
set_option linter.unusedVariables false
set_option maxRecDepth 20000

/-- The Writer's Bytes: a copy. -/
theorem bytes_any {w : World} {F : Nat → Prop} {g : Nat} {bs : List UInt8} (h : WrAt w F g bs) (hl : bs.length ≤ 900000000) : Calls Try.prog 46 #[.pointer (some ⟨g, 0, none⟩)] w (OwnPost w bs) := by
  obtain ⟨v, h1, h2, h3, h4⟩ := h
  obtain ⟨A, n, c, rfl⟩ := h2.form
  have hc : w.cell? ⟨g, 0, none⟩ = some (.slice A n c) := by rw [cell_of_row w g 0 _ _ _ h1]; rfl
  go_enter Try.func46, Try.ntmps46
  go_wp2_with (go_at_call 55; refine (clone_any h2.bts hl).mono ?_; rintro e w1 ⟨A1, n1, c1, rfl, ho, hk⟩)
  go_ret
  exact ⟨A1, n1, c1, rfl, ho, hk⟩

theorem div_step (n k : Nat) : n / 2 ^ (8 * k) / 256 = n / 2 ^ (8 * (k + 1)) := by
  rw [Nat.div_div_eq_div_mul]
  congr 1
  rw [show 8 * (k + 1) = 8 * k + 8 by omega, Nat.pow_add]

end Go.Proofs.Ytndghapdpfgmoaa
