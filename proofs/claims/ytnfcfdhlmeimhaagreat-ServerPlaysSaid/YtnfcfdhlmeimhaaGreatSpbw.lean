/- ServerPlays walked, for the row. -/
import Derived.Test.YtnfcfdhlmeimhaaGreatSpbv
namespace Go.Proofs.YtnfcfdhlmeimhaaGreat
open Go.RowKit
set_option linter.unusedVariables false
set_option linter.unusedSimpArgs false
theorem serverplays_walk (W:World) (x k y:Int) (hy:(Lit.int .u8 y).wf=true) {A0:Option Addr} {n0 c0:Nat} {ds:List ActS} (h0:ActsS W A0 n0 ds) :
  Calls Tryz.prog 3 #[.int .i64 x,.int .i64 k,.int .u8 y,.slice A0 n0 c0] W fun e W'=>e=.returned (.bool true)∧Below W.heap.size W W':=by
 have h2:=bounds_u8 hy
 obtain ⟨y,rfl⟩:=Int.eq_ofNat_of_zero_le h2.1
 exact (serverplays_any W x k y (by omega) h0).mono fun e W' p=>⟨p.1,p.2.below0⟩
end Go.Proofs.YtnfcfdhlmeimhaaGreat
