/- How two numbers compare: cmp.Compare of unsigned ones, cmp.Or. No condition. -/
import Derived.Test.YthicpblgonigcaaProg
import Derived.Test.YthicpblgonigcaaNcaa
import Derived.WalkLawsBesides
import Derived.WalkSpells
import Derived.KernelRfl
import Derived.Deep.QuietTactic
import Derived.BigQuiet
namespace Go.Proofs.Ythicpblgonigcaa
open Go.RowKit
set_option linter.unusedVariables false
set_option linter.unusedSimpArgs false
set_option maxRecDepth 20000

theorem ret_int {a b : Int} (h : a = b) : Ending.returned (.int .i64 a) = .returned (.int .i64 b) := by rw [h]
end Go.Proofs.Ythicpblgonigcaa
