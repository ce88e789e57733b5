/- A block of three cells, of any type. No condition. -/
import Derived.Test.YtjbnbbblafmldaaProg
import Derived.Test.YtjbnbbblafmldaaUbaa
import Derived.WalkLawsBesides
import Derived.WalkSpells
import Derived.KernelRfl
namespace Go.Proofs.Ytjbnbbblafmldaa
open Go.RowKit
set_option linter.unusedVariables false
set_option maxRecDepth 20000

/-- Block b is three cells of the type t. -/
def Bx3 (t : TypeId) (w : World) (b : Nat) (x0 x1 x2 : Value) : Prop := w.heap[b]? = some (.cells #[x0, x1, x2] t (0, 0))
section
variable {t : TypeId} {w w1 : World} {b : Nat} {x0 x1 x2 u : Value}
theorem Bx3.lt (h : Bx3 t w b x0 x1 x2) : b < w.heap.size := (Array.getElem?_eq_some_iff.1 h).1
theorem Bx3.keep {S : Nat → Prop} (h : Bx3 t w b x0 x1 x2) (hk : Kp S w w1) (hb : ¬ S b) : Bx3 t w1 b x0 x1 x2 := (hk.block b h.lt hb).trans h
theorem Bx3.no (h : Bx3 t w b x0 x1 x2) (hk : Kp No w w1) : Bx3 t w1 b x0 x1 x2 := h.keep hk fun f => f
theorem Bx3.fz (h : Bx3 t w b x0 x1 x2) (j : Nat) : w.frozen? ⟨b, j, none⟩ = false := frozen_of_row w b j _ _ h
theorem Bx3.new (w : World) (t : TypeId) (x0 x1 x2 : Value) : Bx3 t (w.alloc (.cells #[x0, x1, x2] t)) w.heap.size x0 x1 x2 := heap_alloc_new w _
theorem Bx3.cell (h : Bx3 t w b x0 x1 x2) : w.cell? ⟨b, 0, none⟩ = some x0 ∧ w.cell? ⟨b, 1, none⟩ = some x1 ∧ w.cell? ⟨b, 2, none⟩ = some x2 := by
  refine ⟨?_, ?_, ?_⟩ <;> (rw [cell_of_row w b _ _ _ _ h]; rfl)
theorem Bx3.set0 (h : Bx3 t w b x0 x1 x2) (u : Value) : Bx3 t (w.setCell ⟨b, 0, none⟩ u) b u x1 x2 := heap_setCell_same w b 0 _ t u h
theorem Bx3.set1 (h : Bx3 t w b x0 x1 x2) (u : Value) : Bx3 t (w.setCell ⟨b, 1, none⟩ u) b x0 u x2 := heap_setCell_same w b 1 _ t u h
theorem Bx3.set2 (h : Bx3 t w b x0 x1 x2) (u : Value) : Bx3 t (w.setCell ⟨b, 2, none⟩ u) b x0 x1 u := heap_setCell_same w b 2 _ t u h
theorem Bx3.all (h : Bx3 t w b x0 x1 x2) (u0 u1 u2 : Value) : Bx3 t (((w.setCell ⟨b, 0, none⟩ u0).setCell ⟨b, 1, none⟩ u1).setCell ⟨b, 2, none⟩ u2) b u0 u1 u2 := ((h.set0 u0).set1 u1).set2 u2
theorem kp3 {S : Nat → Prop} (w : World) (b : Nat) (u0 u1 u2 : Value) (hb : S b) : Kp S w (((w.setCell ⟨b, 0, none⟩ u0).setCell ⟨b, 1, none⟩ u1).setCell ⟨b, 2, none⟩ u2) :=
  ((Kp.setCell (p := ⟨b, 0, none⟩) hb u0).trans' (Kp.setCell (p := ⟨b, 1, none⟩) hb u1)).trans' (Kp.setCell (p := ⟨b, 2, none⟩) hb u2)
end
end Go.Proofs.Ytjbnbbblafmldaa
