/- Layer 10's awake, and SealSums walked: it returns true for any bytes; no condition. -/
import Derived.Test.YtkpongkojkhboaaSea
import Derived.Lib.SlBytesConst
namespace Go.Proofs.Ytkpongkojkhboaa
open Go.RowKit
set_option linter.unusedVariables false
set_option maxRecDepth 20000
set_option linter.unusedSimpArgs false

/-- The chapter's nine digits. -/
def digs : List UInt8 := [49, 50, 51, 52, 53, 54, 55, 56, 57]
theorem digs_sum : ((crc digs : Nat) : Int) = 3808858755 := by decide +kernel

end Go.Proofs.Ytkpongkojkhboaa
