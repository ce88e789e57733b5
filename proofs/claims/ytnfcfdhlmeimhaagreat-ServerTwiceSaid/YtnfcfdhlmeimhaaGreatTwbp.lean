/- What law 12's does knows of both vaults, with its three boxes. -/
import Derived.Test.YtnfcfdhlmeimhaaGreatTwaf
import Derived.Test.YtnfcfdhlmeimhaaGreatTwae
import Derived.Test.YtnfcfdhlmeimhaaGreatTwam
import Derived.Test.YtnfcfdhlmeimhaaGreatTwap
import Derived.Test.YtnfcfdhlmeimhaaGreatTwan
import Derived.Test.YtnfcfdhlmeimhaaGreatTwas
import Derived.Test.YtnfcfdhlmeimhaaGreatTwaq
import Derived.Test.YtnfcfdhlmeimhaaGreatTwad
import Derived.Test.YtnfcfdhlmeimhaaGreatTwar
import Derived.Test.YtnfcfdhlmeimhaaGreatTway
import Derived.Test.YtnfcfdhlmeimhaaGreatTwbd
namespace Go.Proofs.YtnfcfdhlmeimhaaGreat
open Go.RowKit
set_option linter.unusedVariables false
set_option linter.unusedSimpArgs false
set_option maxRecDepth 20000

/-- One act changes the numbers so much. -/
structure NmK (V V1 : Vt) : Prop where
  n : V1.D.cells.length = V.D.cells.length
  l : V1.D.loose.length ≤ V.D.loose.length + 1
  s : V1.D.syncs ≤ V.D.syncs + 1
section
variable (V : Vt) (s : Nat) (b : List UInt8)
theorem Vt.nsame : NmK V V := ⟨rfl, Nat.le_succ _, Nat.le_succ _⟩
theorem Vt.npt : NmK V (V.pt s b) := by
  by_cases e : V.bgE s b = 0
  · rw [Vt.pt_yes e, Vt.bg_yes e]
    exact ⟨(sync_n _).trans (put_n _ _ _), Nat.zero_le _, by show (V.D.put V.free (frV s b)).syncs + 1 ≤ _; rw [put_syncs]; exact Nat.le_refl _⟩
  · rw [Vt.pt_no e]
    exact V.nsame
theorem Vt.ndr : NmK V (V.dr s) := by
  by_cases e : V.drE s = 0
  · rw [Vt.dr_yes e]
    exact ⟨(sync_n _).trans (put_n _ _ _), Nat.zero_le _, by show (V.D.put (cel V.L s) []).syncs + 1 ≤ _; rw [put_syncs]; exact Nat.le_refl _⟩
  · rw [Vt.dr_no e]
    exact V.nsame
end
section
variable {w w1 : World} {a m c : Nat} {A : Option Addr} {d : ActV}
end
/-- The three boxes, and what lies beside them. -/
def X3 (s k : Nat) : Prop := k = s ∨ k = s + 1 ∨ k = s + 2
section
variable {w wr w1 : World} {F X0 G : Nat → Prop} {gd s m c g b g1 b1 : Nat} {d : ActV} {A : Option Addr} {V V1 R R1 : Vt} {vc vl vk vc1 vl1 vk1 : Value} {cs cs1 : List (Value × List UInt8)} {ls ls1 : List (Nat × (Value × List UInt8))}
end
section
variable {w wr w1 : World} {F X0 G : Nat → Prop} {gd s m c g b : Nat} {d : ActV} {A : Option Addr} {V0 V R : Vt} {vc vl vk : Value} {cs : List (Value × List UInt8)} {ls : List (Nat × (Value × List UInt8))}
end
end Go.Proofs.YtnfcfdhlmeimhaaGreat
