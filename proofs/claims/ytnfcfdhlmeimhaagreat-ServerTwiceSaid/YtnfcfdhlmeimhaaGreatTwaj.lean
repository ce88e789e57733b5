/- Rows of the call's own, of any type: their block, an element set; rows of slices just made; slices.Clone of bytes. No condition. -/
import Derived.Test.YtnfcfdhlmeimhaaGreatTwab
namespace Go.Proofs.YtnfcfdhlmeimhaaGreat
open Go.RowKit
set_option linter.unusedVariables false
set_option maxRecDepth 20000
set_option linter.unusedSimpArgs false

section
variable {w : World} {base g r c n sz k : Nat} {e : TypeId} {xs : List Value}
theorem OwnT.row (h : OwnT w base e sz (.slice (some ⟨g, 0, none⟩) r c) n xs) : ∃ cur : Array Value, w.heap[g]? = some (.cells cur e (0, 0)) ∧ base ≤ g ∧ n ≤ c ∧ c ≤ maxLen ∧ cur.size = c * sz ∧ cur.toList.take (n * sz) = xs ∧ r = n := by
  rcases h.2 with ⟨e, _⟩ | ⟨g', cap, cur, e, h1, h2, h3, h4, h5, h6⟩
  · cases e
  · injection e with e1 e2 e3
    injection e1 with e1
    injection e1 with e1
    subst e1 e3
    exact ⟨cur, h2, h1, h3, h4, h5, h6, e2⟩
theorem OwnT.frozenAt (h : OwnT w base e sz (.slice (some ⟨g, 0, none⟩) r c) n xs) (k : Nat) : w.frozen? ⟨g, k, none⟩ = false := by
  obtain ⟨cur, h1, _⟩ := h.row
  exact frozen_of_row w g k _ _ h1
/-- One element, of one cell, is set. -/
theorem OwnT.set1 (h : OwnT w base e 1 (.slice (some ⟨g, 0, none⟩) r c) n xs) (hk : k < n) (v : Value) : OwnT (w.setCell ⟨g, k, none⟩ v) base e 1 (.slice (some ⟨g, 0, none⟩) r c) n (xs.set k v) := by
  obtain ⟨cur, h2, h1, h3, h4, h5, h6, h7⟩ := h.row
  refine ⟨by rw [List.length_set]; exact h.1, .inr ⟨g, c, cur.setIfInBounds k v, by rw [h7], h1, heap_setCell_same w g k cur _ _ h2, h3, h4, by rw [Array.size_setIfInBounds]; exact h5, ?_⟩⟩
  rw [Array.toList_setIfInBounds, ← h6, List.take_set]
/-- A row of another type lies elsewhere. -/
theorem OwnT.off (h : OwnT w base e sz (.slice (some ⟨g, 0, none⟩) r c) n xs) {b2 sz2 n2 : Nat} {e2 : TypeId} {v2 : Value} {xs2 : List Value} (h2 : OwnT w b2 e2 sz2 v2 n2 xs2) (hne : e2 ≠ e) : v2.ownBlock ≠ some g := fun hk => ownT_far h2 h hne hk rfl
theorem OwnT.offB (h : OwnT w base e sz (.slice (some ⟨g, 0, none⟩) r c) n xs) {b2 : Nat} {v2 : Value} {bs : List UInt8} (h2 : Own w b2 5 v2 bs) (hne : 5 ≠ e) : v2.ownBlock ≠ some g := fun hk => ownT_far (e := 5) (sz := 1) (n := bs.length) (xs := bs.map bv) h2 h hne hk rfl
/-- A row lies in no block of another type. -/
theorem OwnT.not_at {v : Value} {t : TypeId} {cs : Array Value} (h : OwnT w base e sz v n xs) (hg : w.heap[g]? = some (.cells cs t (0, 0))) (ht : t ≠ e) : v.ownBlock ≠ some g := fun hk => by
  obtain ⟨cur, h1⟩ := h.kind hk
  rw [h1] at hg
  injection hg with hg
  injection hg with _ hg _
  exact ht hg.symm
end

theorem own_ne_at {w : World} {base g : Nat} {v : Value} {bs : List UInt8} {t : TypeId} {cs : Array Value} (h : Own w base 5 v bs) (hg : w.heap[g]? = some (.cells cs t (0, 0))) (ht : t ≠ 5) : v.ownBlock ≠ some g :=
  OwnT.not_at (e := 5) (sz := 1) (n := bs.length) (xs := bs.map bv) h hg ht

theorem Own.cap {w : World} {base n c : Nat} {e : TypeId} {A : Option Addr} {bs : List UInt8} (h : Own w base e (.slice A n c) bs) : n ≤ c := by
  rcases h.2 with ⟨e1, hn⟩ | ⟨g, cap, cur, e1, _, _, h1, _⟩
  · injection e1 with _ e2 e3; omega
  · injection e1 with _ e2 e3; omega
/-- So many nil slices. -/
def zsl (n : Nat) : Array Value := madeCells (Value.slice none 0 0).cells (n * 1)
theorem zsl_list (n : Nat) : (zsl n).toList = List.replicate n (.slice none 0 0) := by unfold zsl; rw [Nat.mul_one]; exact toList_madeCells_one _ _
theorem zsl_size (n : Nat) : (zsl n).size = n := by unfold zsl; rw [size_madeCells, Nat.mul_one]
/-- make([][]byte, n). -/
theorem make_slcs (w : World) (n : Nat) (x : Int) (hx : x = n) (hn : n ≤ 100000) :
    (Instr.makeSlice 36 (.int .i64 x) (.int .i64 x)).run Tryz.prog w = .ok (.slice (some ⟨w.heap.size, 0, none⟩) n n) (w.alloc (.cells (zsl n) 54)) := by
  obtain ⟨⟨i0, hi0, hz0, hz1, hz2⟩, _⟩ := ty_slc
  subst hx
  have := run_make (P := Tryz.prog) w 36 54 i0 (.slice none 0 0) Tryz.underlying36 hi0 hz0 .i64 .i64 n n (by omega) (by omega) (by rw [hz2]; omega) (by omega)
  rw [hz1] at this
  simpa [zsl] using this
theorem ownT_slcs (w : World) (base n : Nat) (hb : base ≤ w.heap.size) (hn : n ≤ 100000) : OwnT (w.alloc (.cells (zsl n) 54)) base 54 1 (.slice (some ⟨w.heap.size, 0, none⟩) n n) n (List.replicate n (.slice none 0 0)) :=
  ⟨by simp, .inr ⟨w.heap.size, n, zsl n, rfl, hb, heap_alloc_new w _, Nat.le_refl _, by unfold maxLen; omega, by rw [zsl_size]; omega, by rw [zsl_list, Nat.mul_one, List.take_of_length_le (by simp)]⟩⟩
theorem sclone_any {w : World} {bs : List UInt8} {u : Value} (hu : Bts w u bs) (hl : bs.length ≤ 900000000) : Calls Tryz.prog 110 #[u] w (OwnPost w bs) := by
  obtain ⟨i0, hi0, hz0, hz1, hz2⟩ := byte_parts
  obtain ⟨A, n, c, rfl⟩ := hu.form
  have hq := fun (w : World) (a : Option Addr) (n c : Nat) => Lib.run_eql_slice_nil (P := Tryz.prog) w 54 5 a n c 0 0 Tryz.underlying54
  rcases A with _ | ad
  · have hb : bs = [] ∧ n = 0 ∧ c = 0 := by
      obtain ⟨A', c', e, hn, _⟩ := hu
      injection e with e1 e2 e3
      subst e1 e2 e3
      exact ⟨(hn rfl).1, by simp [(hn rfl).1], (hn rfl).2⟩
    obtain ⟨rfl, rfl, rfl⟩ := hb
    go_enter Tryz.func110, Tryz.ntmps110
    go_wp2
    go_ret
    exact ⟨none, 0, 0, rfl, Own.nil _ _ _, Kp.refl _ _⟩
  · go_enter Tryz.func110, Tryz.ntmps110
    go_wp2_with (first
      | (at_builtin
         refine wpList_app rfl (.tmp 5) (.tmp 6) _ rfl i0 Tryz.underlying54 hi0 hz0 hz1 hz2 rfl (own_empty w) rfl (hu.keep (Kp.alloc No w _) fun _ _ f => f) (by simp; omega) (by simp) ?_
         intro A1 n1 c1 w1 ha))
    go_ret
    exact ⟨A1, n1, c1, rfl, by simpa using ha.own, ha.keeps (own_empty w) (Kp.alloc No w _)⟩
end Go.Proofs.YtnfcfdhlmeimhaaGreat
