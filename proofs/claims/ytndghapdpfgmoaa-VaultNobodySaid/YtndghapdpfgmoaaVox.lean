/- VaultNobody's two boxes. -/
import Derived.Test.YtndghapdpfgmoaaVvn
import Derived.Test.YtndghapdpfgmoaaVls
import Derived.Test.YtndghapdpfgmoaaVsx
namespace Go.Proofs.Ytndghapdpfgmoaa
open Go.RowKit
set_option linter.unusedVariables false
set_option linter.unusedSimpArgs false
set_option maxRecDepth 20000

/-- The two names' boxes. -/
structure BxN (w : World) (a b : Nat) (W : World) : Prop where
  ba : Box4 W w.heap.size (.int .u32 (cO a : Int)) (.int .u16 (cS a : Int)) (.int .u16 (cL a : Int)) (.int .u32 (cG a : Int))
  bb : Box4 W (w.heap.size + 1) (.int .u32 (cO b : Int)) (.int .u16 (cS b : Int)) (.int .u16 (cL b : Int)) (.int .u32 (cG b : Int))
  kp : Kp No w W
theorem BxN.no {w W W1 : World} {a b : Nat} (h : BxN w a b W) (hk : Kp No W W1) : BxN w a b W1 := ⟨h.ba.keep hk fun f => f, h.bb.keep hk fun f => f, h.kp.trans' hk⟩
theorem VtZ.new (w : World) : VtZ (w.alloc (.cells #[.pointer none, .map none] 51)) w.heap.size := ⟨cell_new w _ _ rfl rfl, cell_new w _ _ rfl rfl⟩
end Go.Proofs.Ytndghapdpfgmoaa
