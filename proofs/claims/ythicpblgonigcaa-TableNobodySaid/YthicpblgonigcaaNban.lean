/- Package table's Names and Use, each as a contract. No condition. -/
import Derived.Test.YthicpblgonigcaaNbam
namespace Go.Proofs.Ythicpblgonigcaa
open Go.RowKit
set_option linter.unusedVariables false
set_option linter.unusedSimpArgs false
set_option maxRecDepth 20000

section
variable {w : World} {F : Nat → Prop} {g : Nat} {T : Tb} {o : Ob}
theorem tnames_nil : Calls Try.prog 20 #[.pointer none] w fun e w1 => e = .returned (.slice none 0 0) ∧ w = w1 := by
  go_enter Try.func20, Try.ntmps20
  go_wp2
  go_ret
  exact ⟨rfl, rfl⟩
/-! Use. -/
theorem tuse_nil : Calls Try.prog 21 #[.pointer none] w fun e w1 => e = .returned (.slice none 0 0) ∧ w = w1 := by
  go_enter Try.func21, Try.ntmps21
  go_wp2
  go_ret
  exact ⟨rfl, rfl⟩
end
end Go.Proofs.Ythicpblgonigcaa
