/- The laws' rows of a matrix, as a contract over memory. -/
import Derived.Test.YtbkelijmdpoanaaRr
namespace Go.Proofs.Ytbkelijmdpoanaa
open Go.RowKit
set_option linter.unusedVariables false

/-- A matrix's rows. -/
def matL (r c : Nat) (f : Nat → Nat → UInt8) : List (List UInt8) := (List.range r).map fun i => rowL c (f i)
theorem matL_len (r c : Nat) (f : Nat → Nat → UInt8) : (matL r c f).length = r := by simp [matL]
theorem matL_get {r c i : Nat} (f : Nat → Nat → UInt8) (hi : i < r) : (matL r c f)[i]? = some (rowL c (f i)) := by simp [matL, hi]
theorem matL_congr {r c : Nat} {f g : Nat → Nat → UInt8} (h : EqF r c f g) : matL r c f = matL r c g := by
  unfold matL
  refine List.map_congr_left fun i hi => ?_
  have hi := List.mem_range.1 hi
  unfold rowL
  exact List.map_congr_left fun k hk => h i k hi (List.mem_range.1 hk)
theorem rowL_lg (bs : List UInt8) : rowL bs.length (lg bs) = bs := by
  apply List.ext_getElem
  · simp [rowL]
  · intro j h1 h2
    simp [rowL, lg, h2]
theorem matL_fnL {bss : List (List UInt8)} {r c : Nat} (h : Rect bss r c) : matL r c (fnL bss) = bss := by
  apply List.ext_getElem
  · simp [matL, h.len]
  · intro i h1 h2
    have hg := List.getElem?_eq_getElem h2
    have hl := h.row i _ hg
    simp only [matL, List.getElem_map, List.getElem_range]
    rw [show fnL bss i = lg bss[i] from funext fun k => fnL_of hg k, ← hl, rowL_lg]
theorem matL_rect {r c : Nat} (f : Nat → Nat → UInt8) (r1 : 1 ≤ r) (r2 : r ≤ 64) (c1 : 1 ≤ c) (c2 : c ≤ 64) : Rect (matL r c f) r c := by
  refine ⟨matL_len r c f, fun j bs hj => ?_, r1, r2, c1, c2⟩
  have hjl : j < r := by have := (List.getElem?_eq_some_iff.1 hj).1; rwa [matL_len] at this
  rw [matL_get f hjl] at hj
  injection hj with hj
  subst hj
  exact rowL_len _ _

theorem own_apart {w : World} {b b' k : Nat} {u v : Value} {bs : List UInt8} {vs : List Value} (h : Own w b 5 u bs) (h' : OwnV w b' v vs) (hu : u.ownBlock = some k) : v.ownBlock ≠ some k := by
  intro hv
  rcases h.2 with ⟨rfl, _⟩ | ⟨g, cap, cur, rfl, _, hg, _⟩
  · simp [Value.ownBlock] at hu
  · rcases h'.2 with ⟨rfl, _⟩ | ⟨g', cap', cur', rfl, _, hg', _⟩
    · simp [Value.ownBlock] at hv
    · simp only [Value.ownBlock, Option.some.injEq] at hu hv
      subst hu
      subst hv
      rw [hg] at hg'
      simp only [Option.some.injEq, Obj.cells.injEq] at hg'
      exact absurd hg'.2.1 (by decide)

/-- So many rows are copied. -/
structure RInv (w : World) (s : Nat → List UInt8) (k : Nat) (v : Value) (vs : List Value) (wr : World) : Prop where
  own : OwnV wr w.heap.size v vs
  len : vs.length = k
  row : ∀ (j : Nat) u, vs[j]? = some u → Own wr w.heap.size 5 u (s j)
  kp : Kp No w wr
theorem AppV.keeps {S : Nat → Prop} {w0 w w1 : World} {v u v1 : Value} {vs : List Value} (ha : AppV w w0.heap.size v vs u v1 w1) (h : OwnV w w0.heap.size v vs) (hk : Kp S w0 w) : Kp S w0 w1 :=
  hk.trans (ha.kp.mono fun k hk => .inr (h.ge k hk))
theorem RInv.step {w wr w2 w3 : World} {s : Nat → List UInt8} {k b : Nat} {v v1 u : Value} {vs : List Value} {o : Obj} (h : RInv w s k v vs wr) (hk : Kp No wr w2) (hu : Own w2 b 5 u (s k)) (hb : w.heap.size ≤ b)
    (ha : AppV (w2.alloc o) w.heap.size v vs u v1 w3) : RInv w s (k + 1) v1 (vs ++ [u]) w3 := by
  have ho : OwnV (w2.alloc o) w.heap.size v vs := (h.own.no hk).no (Kp.alloc No _ _)
  refine ⟨ha.own, by simp [h.len], fun j x hj => ?_, ha.keeps ho ((h.kp.trans' hk).trans' (Kp.alloc No _ _))⟩
  have hx : Own (w2.alloc o) w.heap.size 5 x (s j) := by
    rcases Nat.lt_or_ge j vs.length with g | g
    · rw [List.getElem?_append_left g] at hj
      exact ((h.row j x hj).no hk).alloc o
    · rw [List.getElem?_append_right g] at hj
      have hj0 : j - vs.length = 0 := by
        have := (List.getElem?_eq_some_iff.1 hj).1
        simp at this
        omega
      rw [hj0] at hj
      simp at hj
      subst hj
      have e : j = k := by have := h.len; omega
      subst e
      exact (hu.rebase fun q hq => Nat.le_trans hb (hu.ge q hq)).alloc o
  exact hx.keep ha.kp fun q hq => own_apart hx ho hq
theorem RInv.rws {w wr : World} {s : Nat → List UInt8} {k : Nat} {A : Option Addr} {n c : Nat} {vs : List Value} {bss : List (List UInt8)} (h : RInv w s k (.slice A n c) vs wr) (hl : bss.length = k) (hb : ∀ j, j < k → bss[j]? = some (s j)) : Rws wr A k bss := by
  have hn := h.own.len
  rw [h.len] at hn
  subst hn
  refine h.own.rws (h.len.trans hl.symm) fun j u bs hj hbs => ?_
  have hjl : j < n := by rw [← h.len]; exact (List.getElem?_eq_some_iff.1 hj).1
  rw [hb j hjl] at hbs
  injection hbs with hbs
  subst hbs
  exact (h.row j u hj).bts

/-- Rows of the call's own come back. -/
def RowsPost (w : World) (r : Nat) (bss : List (List UInt8)) (e : Ending) (w1 : World) : Prop := ∃ A cp, e = .returned (.slice A r cp) ∧ Rws w1 A r bss ∧ Kp No w w1

theorem fresh_cell (w : World) (u : Value) (t : TypeId) : (w.alloc (.cells #[u] t)).cell? ⟨w.heap.size, 0, none⟩ = some u := by simp

end Go.Proofs.Ytbkelijmdpoanaa
