/- A row of bytes of the call's own: its block, its cells, one of them set. No condition. -/
import Derived.Test.YtikegnhjnbjclaaBy
namespace Go.Proofs.Ytikegnhjnbjclaa
open Go.RowKit
set_option linter.unusedVariables false
set_option maxRecDepth 20000
set_option linter.unusedSimpArgs false

theorem Own.block {w : World} {base b L c : Nat} {bs : List UInt8} (h : Own w base 5 (.slice (some ⟨b, 0, none⟩) L c) bs) :
    ∃ cur : Array Value, w.heap[b]? = some (.cells cur 5 (0, 0)) ∧ L = bs.length ∧ L ≤ c ∧ c ≤ maxLen ∧ cur.size = c ∧ base ≤ b ∧ ∀ (k : Nat) x, bs[k]? = some x → cur[k]? = some (bv x) := by
  have hl := h.len
  rcases h.2 with ⟨e, _⟩ | ⟨g, cap, cur, e, hb, hg, h1, h2, h3, ht⟩
  · cases e
  · injection e with e1 e2 e3
    injection e1 with e1
    injection e1 with e1
    subst e1 e3
    refine ⟨cur, hg, hl, by omega, h2, by omega, hb, fun k x hk => ?_⟩
    have hkl : k < bs.length := (List.getElem?_eq_some_iff.1 hk).1
    have h4 : (cur.toList.take (bs.length * 1))[k]? = (bs.map bv)[k]? := by rw [ht]
    rw [List.getElem?_take, if_pos (by omega), Array.getElem?_toList, List.getElem?_map, hk] at h4
    exact h4
theorem Own.mk {w : World} {base b L c : Nat} {bs : List UInt8} {cur : Array Value} (hg : w.heap[b]? = some (.cells cur 5 (0, 0))) (hl : L = bs.length) (h1 : L ≤ c) (h2 : c ≤ maxLen) (h3 : cur.size = c) (hb : base ≤ b) (hx : ∀ (k : Nat) x, bs[k]? = some x → cur[k]? = some (bv x)) :
    Own w base 5 (.slice (some ⟨b, 0, none⟩) L c) bs := by
  refine ⟨by simp, .inr ⟨b, c, cur, by rw [hl], hb, hg, by omega, h2, by omega, ?_⟩⟩
  apply List.ext_getElem?
  intro k
  rw [List.getElem?_take, List.getElem?_map]
  by_cases e : k < bs.length
  · rw [if_pos (by omega), Array.getElem?_toList, hx k _ (List.getElem?_eq_getElem e), List.getElem?_eq_getElem e]
    rfl
  · rw [if_neg (by omega), List.getElem?_eq_none (by omega)]
    rfl
theorem Own.some_ {w : World} {base : Nat} {v : Value} {bs : List UInt8} (h : Own w base 5 v bs) (hn : 0 < bs.length) : ∃ b c, v = .slice (some ⟨b, 0, none⟩) bs.length c ∧ base ≤ b ∧ b < w.heap.size := by
  rcases h.2 with ⟨e, hz⟩ | ⟨g, cap, cur, e, hb, hg, _⟩
  · omega
  · exact ⟨g, cap, e, hb, (Array.getElem?_eq_some_iff.1 hg).1⟩
section
variable {w : World} {base b L c : Nat} {bs : List UInt8}
theorem Own.cellAt (h : Own w base 5 (.slice (some ⟨b, 0, none⟩) L c) bs) {k : Nat} {x : UInt8} (hk : bs[k]? = some x) : w.cell? ⟨b, k, none⟩ = some (.int .u8 (x.toNat : Int)) := by
  obtain ⟨cur, h1, _, _, _, _, _, h2⟩ := Own.block h
  rw [cell_of_row w b k _ _ _ h1, h2 k _ hk]
  rfl
theorem Own.frozenAt (h : Own w base 5 (.slice (some ⟨b, 0, none⟩) L c) bs) (k : Nat) : w.frozen? ⟨b, k, none⟩ = false := by
  obtain ⟨cur, h1, _⟩ := Own.block h
  exact frozen_of_row w b k _ _ h1
theorem Own.set (h : Own w base 5 (.slice (some ⟨b, 0, none⟩) L c) bs) {k : Nat} (hk : k < L) (x : UInt8) (v : Value) (hv : v = bv x) : Own (w.setCell ⟨b, k, none⟩ v) base 5 (.slice (some ⟨b, 0, none⟩) L c) (bs.set k x) := by
  subst hv
  obtain ⟨cur, h1, h2, h3, h4, h5, h6, h7⟩ := Own.block h
  refine Own.mk (cur := cur.setIfInBounds k (bv x)) (heap_setCell_same w b k cur _ _ h1) (by rw [List.length_set]; exact h2) h3 h4 (by rw [Array.size_setIfInBounds]; exact h5) h6 fun j y hj => ?_
  rw [List.getElem?_set] at hj
  rw [Array.getElem?_setIfInBounds]
  by_cases e : k = j
  · subst e
    rw [if_pos rfl, if_pos (by omega)] at hj
    injection hj with hj
    rw [if_pos rfl, if_pos (by omega), hj]
  · rw [if_neg e] at hj
    rw [if_neg e]
    exact h7 j _ hj
end
end Go.Proofs.Ytikegnhjnbjclaa
