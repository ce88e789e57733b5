/- Memory in plain words, for any program: what a step keeps, bytes that a slice reads as, and a row of bytes that the call made and appends to. No condition; A byte's type, rows of bytes of the call's own, make and bytes.Clone, each as a contract over memory. -/
import Derived.WalkKit
import Derived.Maps.AppendAt
import Derived.Laws.IdiomStrings
import Derived.Deep.Draws
import Derived.DataReads
import Derived.BigFrame
import Derived.Test.YthicpblgonigcaaProg
import Derived.WalkLawsBesides
import Derived.WalkSpells
import Derived.KernelRfl
import Derived.Laws.OwnMore
namespace Go.Proofs.Ythicpblgonigcaa
open Go.RowKit

/-- A fact laid out of the walk's sight. -/
theorem hide {p : Prop} (h : p) : Hid p := h

/-- The blocks outside S are as they were. -/
structure Kp (S : Nat → Prop) (w w' : World) : Prop where
  os : w'.os = w.os
  tape : w'.tape = w.tape
  output : w'.output = w.output
  size : w.heap.size ≤ w'.heap.size
  block : ∀ k, k < w.heap.size → ¬ S k → w'.heap[k]? = w.heap[k]?

/-- S, and all that is younger than w. -/
def Up (S : Nat → Prop) (w : World) (k : Nat) : Prop := S k ∨ w.heap.size ≤ k
/-- No block. -/
def No (_ : Nat) : Prop := False

section
variable {S T : Nat → Prop} {w w1 w2 : World}
theorem Kp.refl (S : Nat → Prop) (w : World) : Kp S w w := ⟨rfl, rfl, rfl, Nat.le_refl _, fun _ _ _ => rfl⟩
theorem Kp.mono (h : Kp S w w1) (hs : ∀ k, S k → T k) : Kp T w w1 := ⟨h.os, h.tape, h.output, h.size, fun k hk hn => h.block k hk fun s => hn (hs k s)⟩
theorem Kp.of_no (h : Kp No w w1) (S : Nat → Prop) : Kp S w w1 := h.mono fun _ f => f.elim
theorem Kp.trans (h : Kp S w w1) (k : Kp (Up S w) w1 w2) : Kp S w w2 :=
  ⟨k.os.trans h.os, k.tape.trans h.tape, k.output.trans h.output, Nat.le_trans h.size k.size, fun i hi hn =>
    (k.block i (Nat.lt_of_lt_of_le hi h.size) (by rintro (s | s); exact hn s; omega)).trans (h.block i hi hn)⟩
theorem Kp.trans' (h : Kp S w w1) (k : Kp S w1 w2) : Kp S w w2 := h.trans (k.mono fun _ s => .inl s)
theorem Kp.grown {row : Option Nat} (h : w.grownBy w1 row) : Kp (fun k => row = some k) w w1 := ⟨h.os, h.tape, h.output, h.size, fun k hk hn => h.block k hk fun e => hn e.symm⟩
theorem Kp.alloc (S : Nat → Prop) (w : World) (o : Obj) : Kp S w (w.alloc o) := ⟨rfl, rfl, rfl, by simp, fun k hk _ => Below.heap_alloc w o k hk⟩
theorem Kp.drew (h : Kp S w w1) : Kp S w w1.drew := ⟨h.os, h.tape, h.output, h.size, h.block⟩
theorem Kp.drewN (h : Kp S w w1) (n : Nat) : Kp S w (w1.drewN n) := ⟨h.os, h.tape, h.output, h.size, h.block⟩
theorem Kp.setCell {p : Addr} (hp : S p.block) (u : Value) : Kp S w (w.setCell p u) :=
  ⟨rfl, rfl, rfl, by simp [World.setCell], fun k _ hn => Below.heap_setCell w p u k (fun e => hn (e ▸ hp))⟩
theorem Kp.below {B : Nat} (h : Kp S w w1) (hs : ∀ k, S k → B ≤ k) (hB : B ≤ w.heap.size) : Below B w w1 :=
  ⟨h.os, h.tape, h.output, h.size, fun k hk => h.block k (by omega) fun s => by have := hs k s; omega⟩
theorem Kp.below0 (h : Kp No w w1) : Below w.heap.size w w1 := h.below (fun _ f => f.elim) (Nat.le_refl _)
theorem Kp.cell {p : Addr} {v : Value} (h : Kp S w w1) (hc : w.cell? p = some v) (hn : ¬ S p.block) : w1.cell? p = some v :=
  (World.cell?_of_block (h.block p.block (World.block_lt_of_cell? w p hc) hn)).trans hc
end

section
variable {S : Nat → Prop} {w w1 : World} {v : Value} {bs : List UInt8}
theorem add_none (B off j : Nat) : (⟨B, off, none⟩ : Addr).add j = ⟨B, off + j, none⟩ := by
  unfold Addr.add
  split
  · simp_all
  · rfl
/-- The bytes as a string. -/
def strOf (bs : List UInt8) : ByteArray := ⟨bs.toArray⟩
end

section
variable {S : Nat → Prop} {w w1 : World} {base : Nat} {e : TypeId} {v : Value} {bs : List UInt8}
end

theorem Kp.fresh {w w1 : World} {p : Addr} (h : Kp No w w1) (hp : w.heap.size ≤ p.block) (u : Value) : Kp No w (w1.setCell p u) := h.trans (Kp.setCell (S := Up No w) (.inr hp) u)
theorem Kp.al {w w1 : World} (h : Kp No w w1) (o : Obj) : Kp No w (w1.alloc o) := h.trans' (Kp.alloc No _ _)
/-- A truth value comes back, and no old block is turned. -/
def BoolPost (w : World) (b : Bool) (e : Ending) (w1 : World) : Prop := e = .returned (.bool b) ∧ Kp No w w1
/-- True comes back, and no old block is turned. -/
def TruePost (w : World) (e : Ending) (w1 : World) : Prop := e = .returned (.bool true) ∧ Kp No w w1
theorem Kp.fr {w w1 w2 : World} {F : Nat → Prop} (h : Kp No w w1) (k : Kp F w1 w2) (hF : ∀ q, F q → w.heap.size ≤ q) : Kp No w w2 := h.trans (k.mono fun q hq => .inr (hF q hq))
/-- The blocks from b on. -/
def Frm (b k : Nat) : Prop := b ≤ k
end Go.Proofs.Ythicpblgonigcaa
namespace Go.Proofs.Ythicpblgonigcaa
open Go.RowKit
set_option linter.unusedVariables false
set_option maxRecDepth 20000

/-- So many noughts. -/
def zc (n : Nat) : Array Value := madeCells (Value.int .u8 0).cells (n * 1)
end Go.Proofs.Ythicpblgonigcaa
