/- The chapter's example holds. -/
import Derived.Test.YtfkffgmpgoahpaaGfw
namespace Go.Proofs.Ytfkffgmpgoahpaa
open Go.RowKit
set_option linter.unusedVariables false

theorem awake_any (w : World) : Calls Try.prog 10 #[] w fun e w' => e = .returned (.bool true) ∧ w = w' := by
  have h : Hid (gmul 2 128 = 29) := (by decide +kernel : gmul 2 128 = 29)
  go_enter Try.func10, Try.ntmps10
  go_wp2_with fail
  refine (mul_any 2 128 _ (by decide) (by decide)).mono ?_
  rintro e w' ⟨rfl, rfl⟩
  rw [h.out]
  go_wp2_with fail
  go_ret
  exact ⟨rfl, rfl⟩
end Go.Proofs.Ytfkffgmpgoahpaa
