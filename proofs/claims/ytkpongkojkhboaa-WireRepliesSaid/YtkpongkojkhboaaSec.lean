/- Package seal's Frame and the document's Frame, each as a contract over memory. -/
import Derived.Test.YtkpongkojkhboaaSeb
import Derived.Test.YtkpongkojkhboaaRf
namespace Go.Proofs.Ytkpongkojkhboaa
open Go.RowKit
set_option linter.unusedVariables false
set_option maxRecDepth 20000
set_option linter.unusedSimpArgs false

/-- The eight bytes ahead of a frame's sum. -/
def hdr (k n : Nat) : List UInt8 := numB 53021 2 ++ numB k 2 ++ numB n 4
/-- A frame's sum. -/
def fsum (k : Nat) (bs : List UInt8) : Nat := crc (hdr k bs.length ++ bs)
/-- A frame. -/
def frm (k : Nat) (bs : List UInt8) : List UInt8 := hdr k bs.length ++ numB (fsum k bs) 4 ++ bs
theorem hdr_len (k n : Nat) : (hdr k n).length = 8 := by simp [hdr, numB_length]
theorem frm_len (k : Nat) (bs : List UInt8) : (frm k bs).length = 12 + bs.length := by simp [frm, hdr_len, numB_length]; omega
theorem fsum_lt (k : Nat) (bs : List UInt8) : fsum k bs < 4294967296 := crc_lt _

theorem Kp.to_no {S : Nat → Prop} {w w1 : World} (h : Kp S w w1) (hS : ∀ k, S k → w.heap.size ≤ k) : Kp No w w1 :=
  ⟨h.os, h.tape, h.output, h.size, fun k hk _ => h.block k hk fun s => by have := hS k s; omega⟩
/-- The blocks from b on. -/
def Fr (b k : Nat) : Prop := b ≤ k
theorem Kp.thenFr {w w1 w2 : World} (h : Kp No w w1) (k : Kp (Fr w.heap.size) w1 w2) : Kp No w w2 := h.trans (k.mono fun _ hk => .inr hk)

end Go.Proofs.Ytkpongkojkhboaa
