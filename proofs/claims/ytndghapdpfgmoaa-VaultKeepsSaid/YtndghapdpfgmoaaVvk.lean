/- Package vault's Get, as a contract over memory. -/
import Derived.Test.YtndghapdpfgmoaaVvg
import Derived.Test.YtndghapdpfgmoaaVvj
namespace Go.Proofs.Ytndghapdpfgmoaa
open Go.RowKit
set_option linter.unusedVariables false
set_option linter.unusedSimpArgs false
set_option maxRecDepth 20000

theorem vget_any {w : World} {F : Nat → Prop} {g gd b s : Nat} {V : Vt} (h : VtR w F g gd b V) (hs : s < N96) : Calls Try.prog 13 #[.pointer (some ⟨g, 0, none⟩), shV s] w (GetPost w (V.gtE s) (V.gtB s)) := by
  rcases hk : kn V.L s with _ | _
  · exact vget_no h hs hk
  · by_cases e0 : rdE (V.at_ s) = 0
    · by_cases e1 : rdS (V.at_ s) = s
      · exact vget_same h hs hk e0 e1
      · exact vget_other h hs hk e0 e1
    · exact vget_err h hs hk e0
end Go.Proofs.Ytndghapdpfgmoaa
