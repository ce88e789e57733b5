/- Package table's Bytes, as a contract (printed by tools/gen_tbj.py). No condition. -/
import Derived.Test.YthicpblgonigcaaNban
import Derived.Test.YthicpblgonigcaaProg
import Derived.Test.YthicpblgonigcaaNbaa
namespace Go.Proofs.Ythicpblgonigcaa
open Go.RowKit
set_option linter.unusedVariables false
set_option linter.unusedSimpArgs false
set_option maxRecDepth 20000

theorem tbytes_nil {w : World} : Calls Try.prog 22 #[.pointer none] w fun e w1 => e = .returned (.slice none 0 0) ∧ w = w1 := by
  go_enter Try.func22, Try.ntmps22
  go_wp2_with fail
  refine tmade_nil.mono ?_
  rintro e w1 ⟨rfl, rfl⟩
  go_wp2_with fail
  go_ret
  exact ⟨rfl, rfl⟩
end Go.Proofs.Ythicpblgonigcaa
