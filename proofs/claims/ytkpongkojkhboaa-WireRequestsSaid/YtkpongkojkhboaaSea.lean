/- Package seal's Sum and Go and the document's Sum, each as a contract over memory. -/
import Derived.Test.YtkpongkojkhboaaCl
import Derived.Test.YtkpongkojkhboaaCrm
import Derived.IntWalk
import Derived.Laws.BitsAllLaws
namespace Go.Proofs.Ytkpongkojkhboaa
open Go.RowKit
set_option linter.unusedVariables false
set_option maxRecDepth 20000
set_option linter.unusedSimpArgs false

/-- The sum of any bytes whose sum is s, and bs behind them. -/
def goS (s : Nat) (bs : List UInt8) : Nat := c1s - cbs (c1s - s) bs
theorem goS_lt (s : Nat) (bs : List UInt8) : goS s bs < 4294967296 := by unfold goS c1s; omega
theorem goS_zero (bs : List UInt8) : goS 0 bs = crc bs := rfl
theorem goS_crc (a b : List UInt8) : goS (crc a) b = crc (a ++ b) := crc_go a b

/-- One bit, as the program reckons. -/
theorem bit_step (x : Nat) (h : x < 4294967296) : bits .xor .u32 ((x : Int) / 2) (bits .and .u32 (-(bits .and .u32 (x : Int) 1) % 4294967296) 2197175160) = ((cb x : Nat) : Int) := by
  have e1 : bits .and .u32 (x : Int) 1 = ((x % 2 : Nat) : Int) := by
    have := u32_and_nat x 1 h (by omega)
    rw [Nat.and_one_is_mod] at this
    exact this
  have e2 : ((x : Int) / 2) = ((x / 2 : Nat) : Int) := by omega
  rw [e1, e2]
  rcases (by omega : x % 2 = 0 ∨ x % 2 = 1) with g | g
  · have e3 : bits .and .u32 (-((x % 2 : Nat) : Int) % 4294967296) 2197175160 = ((0 : Nat) : Int) := by
      rw [g]; exact u32_and_nat 0 2197175160 (by omega) (by omega)
    rw [e3, u32_xor_nat _ _ (by omega) (by omega), Nat.xor_zero]
    unfold cb; rw [if_neg (by omega)]
  · have e3 : bits .and .u32 (-((x % 2 : Nat) : Int) % 4294967296) 2197175160 = ((2197175160 : Nat) : Int) := by
      rw [g]; exact (u32_and_nat 4294967295 2197175160 (by omega) (by omega)).trans (by decide)
    rw [e3, u32_xor_nat _ _ (by omega) (by omega)]
    unfold cb; rw [if_pos g]
theorem byte_in (q : Nat) (b : UInt8) (h : q < 4294967296) : bits .xor .u32 (q : Int) (b.toNat : Int) = ((q ^^^ b.toNat : Nat) : Int) ∧ q ^^^ b.toNat < 4294967296 := by
  have := b.toNat_lt
  exact ⟨u32_xor_nat _ _ h (by omega), Nat.xor_lt_two_pow (n := 32) h (by omega)⟩
theorem ones_xor (x : Nat) (h : x < 4294967296) : bits .xor .u32 IntKind.u32.max (x : Int) = ((c1s - x : Nat) : Int) := by
  have e : IntKind.u32.max = ((c1s : Nat) : Int) := by decide
  rw [e, u32_xor_nat _ _ (by decide) h, comp_xor h, Nat.xor_comm]
theorem cn_step (k x : Nat) : cb (cn k x) = cn (k + 1) x := by rw [cn_add]; rfl
theorem cbs_step {bs : List UInt8} {j : Nat} {b : UInt8} (c : Nat) (h : bs[j]? = some b) : cbs c (bs.take (j + 1)) = cn 8 (cbs c (bs.take j) ^^^ b.toNat) := by
  obtain ⟨hj, e⟩ := List.getElem?_eq_some_iff.1 h
  rw [List.take_succ_eq_append_getElem hj, cbs_app, e]
  rfl

end Go.Proofs.Ytkpongkojkhboaa
