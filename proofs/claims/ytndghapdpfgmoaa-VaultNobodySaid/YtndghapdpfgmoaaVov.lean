/- VaultNobody's walk as its row wants it. -/
import Derived.Test.YtndghapdpfgmoaaVvo
namespace Go.Proofs.Ytndghapdpfgmoaa
open Go.RowKit
theorem nobody_below {a b : Nat} (ha : a < N96) (hb : b < N96) (w : World) : Calls Try.prog 4 #[shV a, shV b] w fun e w' => e = .returned (.bool true) ∧ Below w.heap.size w w' :=
  (nobody_any ha hb).mono fun _ _ h => ⟨h.1, h.2.below0⟩
end Go.Proofs.Ytndghapdpfgmoaa
