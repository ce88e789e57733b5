/- MatReckons, all ways: the product and the sum of any two matrices, or that they do not fit, one turned, and any rows picked. -/
import Derived.Test.YtbhocklcopajkaaMryy
import Derived.Test.YtbhocklcopajkaaMryr
import Derived.Test.YtbhocklcopajkaaMryc
import Derived.Test.YtbhocklcopajkaaMrny
import Derived.Test.YtbhocklcopajkaaMrnr
import Derived.Test.YtbhocklcopajkaaMrnc
namespace Go.Proofs.Ytbhocklcopajkaa
open Go.RowKit
set_option linter.unusedVariables false
set_option linter.unusedSimpArgs false

section
variable {w : World} {A1 A2 A3 : Option Addr} {n1 n2 n3 c1 c2 p1 p2 p3 : Nat} {l1 l2 : List (List UInt8)} {zs : List Int}

theorem matreckons_walk (h1 : Rws w A1 n1 l1) (h2 : Rws w A2 n2 l2) (hz : Ints w A3 n3 zs) : Calls Try.prog 5 #[.slice A1 n1 p1, .slice A2 n2 p2, .slice A3 n3 p3] w fun e w' => e = .returned (.bool true) ∧ Below w.heap.size w w' := by
  show Calls _ _ _ _ (TBel w)
  by_cases hS1 : Sml l1 n1 (len0 l1)
  · by_cases hS2 : Sml l2 n2 (len0 l2)
    · rcases Nat.lt_or_ge 80 n3 with h80 | h80
      · exact reck_not3 h1 hS1 h2 hS2 h80
      · generalize len0 l1 = d1 at hS1
        generalize len0 l2 = d2 at hS2
        by_cases hF : d1 = n2
        · by_cases ha : n1 = n2
          · by_cases hc : d1 = d2
            · subst hF ha hc
              exact reck_yy h1 hS1 h2 hS2 hz h80
            · subst hF ha
              exact reck_yc h1 hS1 h2 hS2 hz h80 hc
          · subst hF
            exact reck_yr h1 hS1 h2 hS2 hz h80 ha
        · by_cases ha : n1 = n2
          · by_cases hc : d1 = d2
            · subst ha hc
              exact reck_ny h1 hS1 h2 hS2 hz h80 hF
            · subst ha
              exact reck_nc h1 hS1 h2 hS2 hz h80 hF hc
          · exact reck_nr h1 hS1 h2 hS2 hz h80 hF ha
    · exact reck_not2 h1 hS1 h2 hS2
  · exact reck_not1 h1 hS1
end
end Go.Proofs.Ytbhocklcopajkaa
