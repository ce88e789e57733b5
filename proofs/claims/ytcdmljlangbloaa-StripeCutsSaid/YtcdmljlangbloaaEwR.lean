/- The document's Same (layer 6), as a contract over memory. -/
import Derived.Test.YtcdmljlangbloaaBase
namespace Go.Proofs.Ytcdmljlangbloaa
open Go.RowKit
set_option linter.unusedVariables false
set_option linter.unusedSimpArgs false
set_option maxRecDepth 100000

theorem rs6_any {w : World} {A A' : Option Addr} {n n' cp cp' : Nat} {bss bss' : List (List UInt8)} (h : Rws w A n bss) (h' : Rws w A' n' bss') (hn : n ≤ 1000000) (hn' : n' ≤ 1000000) : Calls Try.prog 17 #[.slice A n cp, .slice A' n' cp'] w fun e w' => e = .returned (.bool (eqR bss bss')) ∧ Sm w w' := by
  have hs := rsame_any (cp := cp) (cp' := cp') h h' hn hn'
  go_enter Try.func17, Try.ntmps17
  go_wp2_with fail
  refine hs.mono ?_
  rintro e w1 ⟨rfl, hs1⟩
  go_wp2_with fail
  go_ret
  exact ⟨rfl, hs1⟩
theorem eqR_self (b : List (List UInt8)) : eqR b b = true := decide_eq_true rfl
end Go.Proofs.Ytcdmljlangbloaa
