/- Rows of the call's own, of any type: their block, an element set; rows of slices just made; slices.Clone of bytes. No condition. -/
import Derived.Test.YthicpblgonigcaaNcac
namespace Go.Proofs.Ythicpblgonigcaa
open Go.RowKit
set_option linter.unusedVariables false
set_option maxRecDepth 20000
set_option linter.unusedSimpArgs false

section
variable {w : World} {base g r c n sz k : Nat} {e : TypeId} {xs : List Value}
theorem OwnT.row (h : OwnT w base e sz (.slice (some ⟨g, 0, none⟩) r c) n xs) : ∃ cur : Array Value, w.heap[g]? = some (.cells cur e (0, 0)) ∧ base ≤ g ∧ n ≤ c ∧ c ≤ maxLen ∧ cur.size = c * sz ∧ cur.toList.take (n * sz) = xs ∧ r = n := by
  rcases h.2 with ⟨e, _⟩ | ⟨g', cap, cur, e, h1, h2, h3, h4, h5, h6⟩
  · cases e
  · injection e with e1 e2 e3
    injection e1 with e1
    injection e1 with e1
    subst e1 e3
    exact ⟨cur, h2, h1, h3, h4, h5, h6, e2⟩
theorem OwnT.frozenAt (h : OwnT w base e sz (.slice (some ⟨g, 0, none⟩) r c) n xs) (k : Nat) : w.frozen? ⟨g, k, none⟩ = false := by
  obtain ⟨cur, h1, _⟩ := h.row
  exact frozen_of_row w g k _ _ h1
theorem OwnT.blk (h : OwnT w base e sz (.slice (some ⟨g, 0, none⟩) r c) n xs) : g < w.heap.size := h.lt g rfl
/-- One element, of one cell, is set. -/
theorem OwnT.set1 (h : OwnT w base e 1 (.slice (some ⟨g, 0, none⟩) r c) n xs) (hk : k < n) (v : Value) : OwnT (w.setCell ⟨g, k, none⟩ v) base e 1 (.slice (some ⟨g, 0, none⟩) r c) n (xs.set k v) := by
  obtain ⟨cur, h2, h1, h3, h4, h5, h6, h7⟩ := h.row
  refine ⟨by rw [List.length_set]; exact h.1, .inr ⟨g, c, cur.setIfInBounds k v, by rw [h7], h1, heap_setCell_same w g k cur _ _ h2, h3, h4, by rw [Array.size_setIfInBounds]; exact h5, ?_⟩⟩
  rw [Array.toList_setIfInBounds, ← h6, List.take_set]
/-- A row lies in no block of another type. -/
theorem OwnT.not_at {v : Value} {t : TypeId} {cs : Array Value} (h : OwnT w base e sz v n xs) (hg : w.heap[g]? = some (.cells cs t (0, 0))) (ht : t ≠ e) : v.ownBlock ≠ some g := fun hk => by
  obtain ⟨cur, h1⟩ := h.kind hk
  rw [h1] at hg
  injection hg with hg
  injection hg with _ hg _
  exact ht hg.symm
end

theorem ownT_base0 {w : World} {base n sz : Nat} {e : TypeId} {v : Value} {xs : List Value} (h : OwnT w base e sz v n xs) : OwnT w 0 e sz v n xs := ownT_rebase h fun _ _ => Nat.zero_le _

end Go.Proofs.Ythicpblgonigcaa
