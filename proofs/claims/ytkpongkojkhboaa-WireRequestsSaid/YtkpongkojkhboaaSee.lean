/- Package seal's Open, as a contract over memory. -/
import Derived.Test.YtkpongkojkhboaaSec
import Derived.Test.YtkpongkojkhboaaRd
import Derived.Deep.RegionHeld3
namespace Go.Proofs.Ytkpongkojkhboaa
open Go.RowKit
set_option linter.unusedVariables false
set_option maxRecDepth 20000
set_option linter.unusedSimpArgs false

/-- A frame's mark, kind, count, sum, and what it bears. -/
def mkO (bs : List UInt8) : Nat := ofB (bs.take 2)
def kdO (bs : List UInt8) : Nat := ofB ((bs.drop 2).take 2)
def ctO (bs : List UInt8) : Nat := ofB ((bs.drop 4).take 4)
def smO (bs : List UInt8) : Nat := ofB ((bs.drop 8).take 4)
def ldO (bs : List UInt8) (n : Nat) : List UInt8 := (bs.drop 12).take n
def csO (bs : List UInt8) (n : Nat) : Nat := crc (bs.take 8 ++ ldO bs n)
/-- What Open says of bytes: the error, and the rest. -/
def opE (bs : List UInt8) : Nat := if bs.length < 12 ∨ mkO bs ≠ 53021 ∨ 65536 < ctO bs ∨ bs.length - 12 < ctO bs then 21 else if smO bs ≠ csO bs (ctO bs) then 22 else 0
def opK (bs : List UInt8) : Nat := if opE bs = 0 then kdO bs else 0
def opL (bs : List UInt8) : List UInt8 := if opE bs = 0 then ldO bs (ctO bs) else []
def opN (bs : List UInt8) : Nat := if opE bs = 0 then 12 + ctO bs else 0

theorem ofB_take {l : List UInt8} (k : Nat) : ofB (l.take k) < 2 ^ (8 * k) :=
  Nat.lt_of_lt_of_le (ofB_lt _) (Nat.pow_le_pow_right (by omega) (by have := List.length_take_le k l; omega))
theorem mkO_lt (bs : List UInt8) : mkO bs < 65536 := ofB_take 2
theorem kdO_lt (bs : List UInt8) : kdO bs < 65536 := ofB_take 2
theorem ctO_lt (bs : List UInt8) : ctO bs < 4294967296 := ofB_take 4
theorem smO_lt (bs : List UInt8) : smO bs < 4294967296 := ofB_take 4
theorem csO_lt (bs : List UInt8) (n : Nat) : csO bs n < 4294967296 := crc_lt _
theorem head_parts (bs : List UInt8) : bs.take 12 = bs.take 2 ++ ((bs.drop 2).take 2 ++ ((bs.drop 4).take 4 ++ ((bs.drop 8).take 4 ++ []))) := by
  rw [show (12 : Nat) = 2 + (2 + (4 + 4)) from rfl, List.take_add, List.take_add, List.take_add, List.drop_drop, List.drop_drop, List.append_nil]

/-- What Open returns. -/
def OpPost (w : World) (k : Nat) (ld : List UInt8) (sz er : Nat) (e : Ending) (w1 : World) : Prop :=
  ∃ A n c, e = .returned (.tuple #[.int .u16 (k : Int), .slice A n c, .int .i64 (sz : Int), .int .i64 (er : Int)]) ∧ Own w1 w.heap.size 5 (.slice A n c) ld ∧ Kp No w w1
theorem OpPost.err {w w1 : World} {er : Nat} (hk : Kp No w w1) : OpPost w 0 [] 0 er (.returned (.tuple #[.int .u16 0, .slice none 0 0, .int .i64 0, .int .i64 (er : Int)])) w1 := ⟨none, 0, 0, rfl, Own.nil _ _ _, hk⟩

section
variable {w : World} {n c : Nat} {A : Option Addr} {bs : List UInt8}
/-- A block that is younger than w, and what a reader's call there keeps. -/
theorem Kp.thenAt {w w1 w2 : World} {g : Nat} (h : Kp No w w1) (hg : w.heap.size ≤ g) (k : Kp (fun b => b = g) w1 w2) : Kp No w w2 := h.trans (k.mono fun b hb => .inr (by omega))

theorem RdAt.in_ {F : Nat → Prop} {g : Nat} (h : RdAt w F g bs) : F g := by
  obtain ⟨_, _, _, _, _, _, h4, _⟩ := h
  exact h4
theorem op_err {er : Nat} {e : Ending} {w1 : World} (h : opE bs = er) (h0 : er ≠ 0) (hp : OpPost w 0 [] 0 er e w1) : OpPost w (opK bs) (opL bs) (opN bs) (opE bs) e w1 := by
  unfold opK opL opN
  rw [if_neg (by omega), if_neg (by omega), if_neg (by omega), h]
  exact hp
theorem op_ok {e : Ending} {w1 : World} (h : opE bs = 0) (hp : OpPost w (kdO bs) (ldO bs (ctO bs)) (12 + ctO bs) 0 e w1) : OpPost w (opK bs) (opL bs) (opN bs) (opE bs) e w1 := by
  unfold opK opL opN
  rw [if_pos h, if_pos h, if_pos h, h]
  exact hp
theorem opE_21 (h : bs.length < 12 ∨ mkO bs ≠ 53021 ∨ 65536 < ctO bs ∨ bs.length - 12 < ctO bs) : opE bs = 21 := by unfold opE; rw [if_pos h]

end
end Go.Proofs.Ytkpongkojkhboaa
