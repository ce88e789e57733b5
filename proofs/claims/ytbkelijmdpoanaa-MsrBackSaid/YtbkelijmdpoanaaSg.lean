/- Rows of rows of bytes of the call's own, whose rows are set, swapped and written: what memory holds. No condition. -/
import Derived.Test.YtbkelijmdpoanaaMw
import Derived.Test.YtbkelijmdpoanaaSvm
import Derived.StillTailTactics
namespace Go.Proofs.Ytbkelijmdpoanaa
open Go.RowKit
set_option linter.unusedVariables false

/-- One value is set. -/
def upd {α : Type} (h : Nat → α) (i : Nat) (x : α) (j : Nat) : α := if j = i then x else h j
theorem upd_at {α : Type} (h : Nat → α) (i : Nat) (x : α) : upd h i x i = x := if_pos rfl
theorem upd_ne {α : Type} (h : Nat → α) {i j : Nat} (x : α) (e : j ≠ i) : upd h i x j = h j := if_neg e
theorem upd_self {α : Type} (h : Nat → α) (i : Nat) : upd h i (h i) = h := by
  funext j
  by_cases e : j = i
  · rw [e, upd_at]
  · rw [upd_ne _ _ e]

theorem Own.block {w : World} {base b L c : Nat} {bs : List UInt8} (h : Own w base 5 (.slice (some ⟨b, 0, none⟩) L c) bs) :
    ∃ cur : Array Value, w.heap[b]? = some (.cells cur 5 (0, 0)) ∧ L = bs.length ∧ L ≤ c ∧ c ≤ maxLen ∧ cur.size = c ∧ base ≤ b ∧ ∀ (k : Nat) x, bs[k]? = some x → cur[k]? = some (bv x) := by
  have hl := h.len
  rcases h.2 with ⟨e, _⟩ | ⟨g, cap, cur, e, hb, hg, h1, h2, h3, ht⟩
  · cases e
  · injection e with e1 e2 e3
    injection e1 with e1
    injection e1 with e1
    subst e1 e3
    refine ⟨cur, hg, hl, by omega, h2, by omega, hb, fun k x hk => ?_⟩
    have hkl : k < bs.length := (List.getElem?_eq_some_iff.1 hk).1
    have h4 : (cur.toList.take (bs.length * 1))[k]? = (bs.map bv)[k]? := by rw [ht]
    rw [List.getElem?_take, if_pos (by omega), Array.getElem?_toList, List.getElem?_map, hk] at h4
    exact h4
theorem Own.mk {w : World} {base b L c : Nat} {bs : List UInt8} {cur : Array Value} (hg : w.heap[b]? = some (.cells cur 5 (0, 0))) (hl : L = bs.length) (h1 : L ≤ c) (h2 : c ≤ maxLen) (h3 : cur.size = c) (hb : base ≤ b) (hx : ∀ (k : Nat) x, bs[k]? = some x → cur[k]? = some (bv x)) :
    Own w base 5 (.slice (some ⟨b, 0, none⟩) L c) bs := by
  refine ⟨by simp, .inr ⟨b, c, cur, by rw [hl], hb, hg, by omega, h2, by omega, ?_⟩⟩
  apply List.ext_getElem?
  intro k
  rw [List.getElem?_take, List.getElem?_map]
  by_cases e : k < bs.length
  · rw [if_pos (by omega), Array.getElem?_toList, hx k _ (List.getElem?_eq_getElem e), List.getElem?_eq_getElem e]
    rfl
  · rw [if_neg (by omega), List.getElem?_eq_none (by omega)]
    rfl
theorem Own.some_ {w : World} {base : Nat} {v : Value} {bs : List UInt8} (h : Own w base 5 v bs) (hn : 0 < bs.length) : ∃ b c, v = .slice (some ⟨b, 0, none⟩) bs.length c ∧ base ≤ b ∧ b < w.heap.size := by
  rcases h.2 with ⟨e, hz⟩ | ⟨g, cap, cur, e, hb, hg, _⟩
  · omega
  · exact ⟨g, cap, e, hb, (Array.getElem?_eq_some_iff.1 hg).1⟩

section
variable {w w1 : World} {base b L c : Nat} {s : Nat → UInt8} {S : Nat → Prop}
/-- A row of the call's own, of L bytes. -/
def RowAt (w : World) (base b L c : Nat) (s : Nat → UInt8) : Prop := Own w base 5 (.slice (some ⟨b, 0, none⟩) L c) (rowL L s)
theorem RowAt.cell (h : RowAt w base b L c s) {k : Nat} (hk : k < L) : w.cell? ⟨b, k, none⟩ = some (.int .u8 ((s k).toNat : Int)) := by
  obtain ⟨cur, h1, _, _, _, _, _, h2⟩ := Own.block h
  rw [cell_of_row w b k _ _ _ h1, h2 k _ (rowL_get s hk)]
  rfl
theorem RowAt.frozen (h : RowAt w base b L c s) (k : Nat) : w.frozen? ⟨b, k, none⟩ = false := by
  obtain ⟨cur, h1, _⟩ := Own.block h
  exact frozen_of_row w b k _ _ h1
theorem RowAt.eq {t : Nat → UInt8} (h : RowAt w base b L c s) (he : ∀ k, k < L → s k = t k) : RowAt w base b L c t := by
  have e : rowL L s = rowL L t := List.map_congr_left fun k hk => he k (List.mem_range.1 hk)
  unfold RowAt
  rw [← e]
  exact h
theorem RowAt.set (h : RowAt w base b L c s) {k : Nat} (hk : k < L) (x : UInt8) (v : Value) (hv : v = bv x) : RowAt (w.setCell ⟨b, k, none⟩ v) base b L c (upd s k x) := by
  subst hv
  obtain ⟨cur, h1, h2, h3, h4, h5, h6, h7⟩ := Own.block h
  refine Own.mk (cur := cur.setIfInBounds k (bv x)) (heap_setCell_same w b k cur _ _ h1) (by rw [rowL_len]) h3 h4 (by rw [Array.size_setIfInBounds]; exact h5) h6 fun j y hj => ?_
  have hjl : j < L := by have := (List.getElem?_eq_some_iff.1 hj).1; rwa [rowL_len] at this
  rw [rowL_get _ hjl] at hj
  injection hj with hj
  subst hj
  rw [Array.getElem?_setIfInBounds]
  unfold upd
  by_cases e : k = j
  · subst e
    rw [if_pos rfl, if_pos (by omega), if_pos rfl]
  · rw [if_neg e, if_neg (fun e' => e e'.symm)]
    exact h7 j _ (rowL_get s hjl)
theorem RowAt.kpset (b k : Nat) (v : Value) (w : World) : Kp (fun q => q = b) w (w.setCell ⟨b, k, none⟩ v) := Kp.setCell (p := ⟨b, k, none⟩) (S := fun q => q = b) rfl v
theorem RowAt.keep (h : RowAt w base b L c s) (hk : Kp S w w1) (hS : ¬ S b) : RowAt w1 base b L c s := Own.keep h hk fun k hk e => by
  injection hk with hk
  subst hk
  exact hS e
theorem RowAt.no (h : RowAt w base b L c s) (hk : Kp No w w1) : RowAt w1 base b L c s := h.keep hk fun f => f
theorem RowAt.bts (h : RowAt w base b L c s) : Bts w (.slice (some ⟨b, 0, none⟩) L c) (rowL L s) := Own.bts h

/-- The block g holds so many slices. -/
def Outer (w : World) (g n : Nat) (hv : Nat → Value) : Prop := ∃ cur : Array Value, w.heap[g]? = some (.cells cur 29 (0, 0)) ∧ ∀ j, j < n → cur[j]? = some (hv j)
theorem Outer.cell {g n : Nat} {hv : Nat → Value} (h : Outer w g n hv) {j : Nat} (hj : j < n) : w.cell? ⟨g, j, none⟩ = some (hv j) := by
  obtain ⟨cur, h1, h2⟩ := h
  rw [cell_of_row w g j _ _ _ h1, h2 j hj]
theorem Outer.frozen {g n : Nat} {hv : Nat → Value} (h : Outer w g n hv) (j : Nat) : w.frozen? ⟨g, j, none⟩ = false := by
  obtain ⟨cur, h1, h2⟩ := h
  exact frozen_of_row w g j _ _ h1
theorem Outer.keep {g n : Nat} {hv : Nat → Value} (h : Outer w g n hv) (hk : Kp S w w1) (hS : ¬ S g) : Outer w1 g n hv := by
  obtain ⟨cur, h1, h2⟩ := h
  exact ⟨cur, by rw [hk.block g (Array.getElem?_eq_some_iff.1 h1).1 hS]; exact h1, h2⟩
theorem Outer.lt {g n : Nat} {hv : Nat → Value} (h : Outer w g n hv) : g < w.heap.size := by
  obtain ⟨cur, h1, h2⟩ := h
  exact (Array.getElem?_eq_some_iff.1 h1).1
theorem Outer.set {g n : Nat} {hv : Nat → Value} (h : Outer w g n hv) {i : Nat} (hi : i < n) (v : Value) : Outer (w.setCell ⟨g, i, none⟩ v) g n (upd hv i v) := by
  obtain ⟨cur, h1, h2⟩ := h
  have hsz : i < cur.size := (Array.getElem?_eq_some_iff.1 (h2 i hi)).1
  refine ⟨cur.setIfInBounds i v, heap_setCell_same w g i cur _ _ h1, fun j hj => ?_⟩
  rw [Array.getElem?_setIfInBounds]
  unfold upd
  by_cases e : i = j
  · subst e
    rw [if_pos rfl, if_pos hsz, if_pos rfl]
  · rw [if_neg e, if_neg (fun e' => e e'.symm)]
    exact h2 j hj
theorem Outer.eq {g n : Nat} {hv hv' : Nat → Value} (h : Outer w g n hv) (he : ∀ j, j < n → hv j = hv' j) : Outer w g n hv' := by
  obtain ⟨cur, h1, h2⟩ := h
  exact ⟨cur, h1, fun j hj => by rw [← he j hj]; exact h2 j hj⟩
theorem outer_ne {g n : Nat} {hv : Nat → Value} {v : Value} {bs : List UInt8} (h : Outer w g n hv) (ho : Own w base 5 v bs) : v.ownBlock ≠ some g := by
  intro hv'
  obtain ⟨cur, h1, _⟩ := h
  rcases ho.2 with ⟨rfl, _⟩ | ⟨b, cap', cur', rfl, _, hg', _⟩
  · simp [Value.ownBlock] at hv'
  · simp only [Value.ownBlock, Option.some.injEq] at hv'
    subst hv'
    rw [h1] at hg'
    simp only [Option.some.injEq, Obj.cells.injEq] at hg'
    exact absurd hg'.2.1 (by decide)

/-- The block g holds so many rows, each of the call's own. -/
structure Grd (w : World) (base g n : Nat) (hv : Nat → Value) (bs : Nat → List UInt8) : Prop where
  out : Outer w g n hv
  row : ∀ j, j < n → Own w base 5 (hv j) (bs j)
  bas : base ≤ g
/-- No two rows are one. -/
def InjV (n : Nat) (hv : Nat → Value) : Prop := ∀ i j, i < n → j < n → (hv i).ownBlock = (hv j).ownBlock → i = j
variable {g n : Nat} {hv : Nat → Value} {bs : Nat → List UInt8}
theorem Grd.keep (h : Grd w base g n hv bs) (hk : Kp S w w1) (hg : ¬ S g) (hb : ∀ j k, j < n → (hv j).ownBlock = some k → ¬ S k) : Grd w1 base g n hv bs :=
  ⟨h.out.keep hk hg, fun j hj => (h.row j hj).keep hk fun k hk => hb j k hj hk, h.bas⟩
theorem Grd.no (h : Grd w base g n hv bs) (hk : Kp No w w1) : Grd w1 base g n hv bs := h.keep hk (fun f => f) fun _ _ _ _ f => f
theorem Grd.eq {bs' : Nat → List UInt8} (h : Grd w base g n hv bs) (he : ∀ j, j < n → bs j = bs' j) : Grd w base g n hv bs' := ⟨h.out, fun j hj => by rw [← he j hj]; exact h.row j hj, h.bas⟩
theorem Grd.eqV {hv' : Nat → Value} (h : Grd w base g n hv bs) (he : ∀ j, j < n → hv j = hv' j) : Grd w base g n hv' bs := ⟨h.out.eq he, fun j hj => by rw [← he j hj]; exact h.row j hj, h.bas⟩
/-- A row is put at place i. -/
theorem Grd.put (h : Grd w base g n hv bs) {i : Nat} (hi : i < n) {v : Value} {l : List UInt8} (ho : Own w base 5 v l) : Grd (w.setCell ⟨g, i, none⟩ v) base g n (upd hv i v) (upd bs i l) := by
  have hk : Kp (fun q => q = g) w (w.setCell ⟨g, i, none⟩ v) := Kp.setCell (p := ⟨g, i, none⟩) (S := fun q => q = g) rfl v
  refine ⟨h.out.set hi v, fun j hj => ?_, h.bas⟩
  unfold upd
  by_cases e : j = i
  · rw [if_pos e, if_pos e]
    exact ho.keep hk fun k hk e => outer_ne h.out ho (by rw [hk, e])
  · rw [if_neg e, if_neg e]
    exact (h.row j hj).keep hk fun k hk e => outer_ne h.out (h.row j hj) (by rw [hk, e])
theorem Grd.kpput (h : Grd w base g n hv bs) (i : Nat) (v : Value) : Kp (fun q => base ≤ q) w (w.setCell ⟨g, i, none⟩ v) := Kp.setCell (p := ⟨g, i, none⟩) (S := fun q => base ≤ q) h.bas v
/-- A row is written. -/
theorem Grd.wrote (h : Grd w base g n hv bs) (hI : InjV n hv) {i b : Nat} (hi : i < n) (hb : (hv i).ownBlock = some b) {l : List UInt8} (ho : Own w1 base 5 (hv i) l) (hk : Kp (fun q => q = b) w w1) : Grd w1 base g n hv (upd bs i l) := by
  refine ⟨h.out.keep hk fun e => outer_ne h.out (h.row i hi) (by rw [hb, e]), fun j hj => ?_, h.bas⟩
  unfold upd
  by_cases e : j = i
  · rw [if_pos e, e]
    exact ho
  · rw [if_neg e]
    exact (h.row j hj).keep hk fun k hk e' => e (hI j i hj hi (by rw [hk, hb, e']))
theorem Grd.rws (h : Grd w base g n hv bs) : Rws w (some ⟨g, 0, none⟩) n ((List.range n).map bs) := by
  refine ⟨by simp, fun j l hj => ?_⟩
  have hjl : j < n := by have := (List.getElem?_eq_some_iff.1 hj).1; simpa using this
  simp [hjl] at hj
  subst hj
  exact ⟨g, 0, hv j, rfl, by rw [Nat.zero_add]; exact h.out.cell hjl, (h.row j hjl).bts⟩
/-- Where a row lies. -/
theorem Grd.at_ {L : Nat} {f : Nat → Nat → UInt8} (h : Grd w base g n hv fun j => rowL L (f j)) (hL : 0 < L) {j : Nat} (hj : j < n) : ∃ b c, hv j = .slice (some ⟨b, 0, none⟩) L c ∧ (hv j).ownBlock = some b ∧ RowAt w base b L c (f j) ∧ base ≤ b ∧ b < w.heap.size := by
  obtain ⟨b, c, e, h1, h2⟩ := (h.row j hj).some_ (by rw [rowL_len]; exact hL)
  rw [rowL_len] at e
  refine ⟨b, c, e, by rw [e]; rfl, ?_, h1, h2⟩
  have := h.row j hj
  rw [e] at this
  exact this
/-- Two rows are swapped. -/
theorem InjV.swap (hI : InjV n hv) {a i : Nat} (ha : a < n) (hi : i < n) : InjV n (upd (upd hv a (hv i)) i (hv a)) := by
  have key : ∀ j, j < n → ∃ q, q < n ∧ upd (upd hv a (hv i)) i (hv a) j = hv q ∧ ((j = i ∧ q = a) ∨ (j ≠ i ∧ j = a ∧ q = i) ∨ (j ≠ i ∧ j ≠ a ∧ q = j)) := fun j hj => by
    unfold upd
    by_cases e1 : j = i
    · exact ⟨a, ha, by rw [if_pos e1], .inl ⟨e1, rfl⟩⟩
    · by_cases e2 : j = a
      · exact ⟨i, hi, by rw [if_neg e1, if_pos e2], .inr (.inl ⟨e1, e2, rfl⟩)⟩
      · exact ⟨j, hj, by rw [if_neg e1, if_neg e2], .inr (.inr ⟨e1, e2, rfl⟩)⟩
  intro p q hp hq e
  obtain ⟨p', hp', ep, cp⟩ := key p hp
  obtain ⟨q', hq', eq, cq⟩ := key q hq
  rw [ep, eq] at e
  have := hI p' q' hp' hq' e
  omega
theorem Grd.swap (h : Grd w base g n hv bs) {a i : Nat} (ha : a < n) (hi : i < n) : Grd ((w.setCell ⟨g, a, none⟩ (hv i)).setCell ⟨g, i, none⟩ (hv a)) base g n (upd (upd hv a (hv i)) i (hv a)) (upd (upd bs a (bs i)) i (bs a)) := by
  have hk : Kp (fun q => q = g) w (w.setCell ⟨g, a, none⟩ (hv i)) := Kp.setCell (p := ⟨g, a, none⟩) (S := fun q => q = g) rfl _
  exact (h.put ha (h.row i hi)).put hi ((h.row a ha).keep hk fun k hk e => outer_ne h.out (h.row a ha) (by rw [hk, e]))
end
end Go.Proofs.Ytbkelijmdpoanaa
