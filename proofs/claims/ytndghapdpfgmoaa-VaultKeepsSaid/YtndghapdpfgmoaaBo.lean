/- Truth values in a block of the call's own. No condition. -/
import Derived.Test.YtndghapdpfgmoaaOw
namespace Go.Proofs.Ytndghapdpfgmoaa
open Go.RowKit
set_option linter.unusedVariables false
set_option linter.unusedSimpArgs false
set_option maxRecDepth 100000

/-- Truth values in a block of the call's own. -/
def BRow (w : World) (b n : Nat) (f : Nat → Bool) : Prop := ∃ cur : Array Value, w.heap[b]? = some (.cells cur 4 (0, 0)) ∧ ∀ j, j < n → cur[j]? = some (.bool (f j))
section
variable {w w1 : World} {b n : Nat} {f f' : Nat → Bool} {S : Nat → Prop}
theorem BRow.cell (h : BRow w b n f) {j : Nat} (hj : j < n) : w.cell? ⟨b, j, none⟩ = some (.bool (f j)) := by
  obtain ⟨cur, h1, h2⟩ := h
  rw [cell_of_row w b j _ _ _ h1, h2 j hj]
theorem BRow.cellv (h : BRow w b n f) {j : Nat} {u : Bool} (hj : j < n) (hu : f j = u) : w.cell? ⟨b, j, none⟩ = some (.bool u) := hu ▸ h.cell hj
theorem BRow.frozen (h : BRow w b n f) (j : Nat) : w.frozen? ⟨b, j, none⟩ = false := by
  obtain ⟨cur, h1, _⟩ := h
  exact frozen_of_row w b j _ _ h1
theorem BRow.keep (h : BRow w b n f) (hk : Kp S w w1) (hS : ¬ S b) : BRow w1 b n f := by
  obtain ⟨cur, h1, h2⟩ := h
  exact ⟨cur, by rw [hk.block b (Array.getElem?_eq_some_iff.1 h1).1 hS]; exact h1, h2⟩
theorem BRow.no (h : BRow w b n f) (hk : Kp No w w1) : BRow w1 b n f := h.keep hk fun f => f
theorem BRow.eq (h : BRow w b n f) (he : ∀ j, j < n → f j = f' j) : BRow w b n f' := by
  obtain ⟨cur, h1, h2⟩ := h
  exact ⟨cur, h1, fun j hj => by rw [← he j hj]; exact h2 j hj⟩
theorem BRow.set (h : BRow w b n f) {i : Nat} (hi : i < n) : BRow (w.setCell ⟨b, i, none⟩ (.bool true)) b n fun j => if j = i then true else f j := by
  obtain ⟨cur, h1, h2⟩ := h
  have hsz : i < cur.size := (Array.getElem?_eq_some_iff.1 (h2 i hi)).1
  refine ⟨cur.setIfInBounds i (.bool true), heap_setCell_same w b i cur _ _ h1, fun j hj => ?_⟩
  rw [Array.getElem?_setIfInBounds]
  show _ = some (Value.bool (if j = i then true else f j))
  by_cases e : i = j
  · subst e
    rw [if_pos rfl, if_pos hsz, if_pos rfl]
  · rw [if_neg e, if_neg (fun e' : j = i => e e'.symm)]
    exact h2 j hj
end
def zbl (n : Nat) : Array Value := madeCells (Value.bool false).cells (n * 1)
theorem zbl_get {n j : Nat} (h : j < n) : (zbl n)[j]? = some (.bool false) := by
  have e : (zbl n).toList = List.replicate n (.bool false) := by unfold zbl; rw [Nat.mul_one]; exact toList_madeCells_one _ _
  rw [← Array.getElem?_toList, e, List.getElem?_replicate, if_pos h]
theorem ty_bool : Ty 4 (.bool false) 1 1 := ty_of (by kernel_rfl) rfl (by omega) (by omega)
/-- make([]bool, n). -/
theorem make_bools (w : World) (n : Nat) (x : Int) (hx : x = n) (hn : n ≤ 1000) :
    (Instr.makeSlice 91 (.int .i64 x) (.int .i64 x)).run Try.prog w = .ok (.slice (some ⟨w.heap.size, 0, none⟩) n n) (w.alloc (.cells (zbl n) 4)) := by
  obtain ⟨⟨i0, hi0, hz0, hz1, hz2⟩, _⟩ := ty_bool
  subst hx
  have := run_make (P := Try.prog) w 91 4 i0 (.bool false) Try.underlying91 hi0 hz0 .i64 .i64 n n (by omega) (by omega) (by rw [hz2]; omega) (by omega)
  rw [hz1] at this
  simpa [zbl] using this
end Go.Proofs.Ytndghapdpfgmoaa
