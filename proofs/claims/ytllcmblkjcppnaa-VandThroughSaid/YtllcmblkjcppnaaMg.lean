/- The document's matrices of rows of rows that it makes (Zero, One, Turned, Mul), each as a contract over memory. -/
import Derived.Test.YtllcmblkjcppnaaMw
import Derived.Test.YtllcmblkjcppnaaMq
namespace Go.Proofs.Ytllcmblkjcppnaa
open Go.RowKit
set_option linter.unusedVariables false

/-- The slice v holds r rows of c bytes, each in a block of its own, all of the call's own. -/
structure GridAt (w : World) (base : Nat) (v : Value) (bl : Nat → Nat) (r c : Nat) (f : Nat → Nat → UInt8) : Prop where
  own : OwnV w base v ((List.range r).map fun j => .slice (some ⟨bl j, 0, none⟩) c c)
  row : ∀ j, j < r → ∃ cur : Array Value, w.heap[bl j]? = some (.cells cur 5 (0, 0)) ∧ cur.size = c ∧ ∀ k, k < c → cur[k]? = some (bv (f j k))
  inj : ∀ i j, i < r → j < r → bl i = bl j → i = j
  bas : ∀ j, j < r → base ≤ bl j

section
variable {w w1 : World} {base : Nat} {v : Value} {bl : Nat → Nat} {r c : Nat} {f g : Nat → Nat → UInt8} {S : Nat → Prop}
theorem GridAt.nil (w : World) (base : Nat) (bl : Nat → Nat) (c : Nat) (f : Nat → Nat → UInt8) : GridAt w base (.slice none 0 0) bl 0 c f :=
  ⟨OwnV.nil _ _, fun j hj => by omega, fun i j hi => by omega, fun j hj => by omega⟩
theorem GridAt.eqF (h : GridAt w base v bl r c f) (he : EqF r c f g) : GridAt w base v bl r c g :=
  ⟨h.own, fun j hj => by
    obtain ⟨cur, h1, h2, h3⟩ := h.row j hj
    exact ⟨cur, h1, h2, fun k hk => by rw [← he j k hj hk]; exact h3 k hk⟩, h.inj, h.bas⟩
theorem GridAt.keep (h : GridAt w base v bl r c f) (hk : Kp S w w1) (hv : ∀ k, v.ownBlock = some k → ¬ S k) (hb : ∀ j, j < r → ¬ S (bl j)) : GridAt w1 base v bl r c f :=
  ⟨h.own.keep hk hv, fun j hj => by
    obtain ⟨cur, h1, h2, h3⟩ := h.row j hj
    exact ⟨cur, by rw [hk.block (bl j) (Array.getElem?_eq_some_iff.1 h1).1 (hb j hj)]; exact h1, h2, h3⟩, h.inj, h.bas⟩
theorem GridAt.no (h : GridAt w base v bl r c f) (hk : Kp No w w1) : GridAt w1 base v bl r c f := h.keep hk (fun _ _ f => f) (fun _ _ f => f)
theorem GridAt.ne (h : GridAt w base v bl r c f) {j : Nat} (hj : j < r) : v.ownBlock ≠ some (bl j) := by
  intro hv
  obtain ⟨cur, h1, h2, h3⟩ := h.row j hj
  rcases h.own.2 with ⟨rfl, _⟩ | ⟨g', cap', cur', rfl, _, hg', _⟩
  · simp [Value.ownBlock] at hv
  · simp only [Value.ownBlock, Option.some.injEq] at hv
    subst hv
    rw [h1] at hg'
    simp only [Option.some.injEq, Obj.cells.injEq] at hg'
    exact absurd hg'.2.1 (by decide)
theorem GridAt.outer {A : Option Addr} {n cp : Nat} (h : GridAt w base (.slice A n cp) bl r c f) {j : Nat} (hj : j < r) : ∃ g, A = some ⟨g, 0, none⟩ ∧ n = r ∧ w.cell? ⟨g, j, none⟩ = some (.slice (some ⟨bl j, 0, none⟩) c c) := by
  obtain ⟨g, h1, _, _, h2⟩ := h.own.cell (j := j) (u := .slice (some ⟨bl j, 0, none⟩) c c) (by simp [hj])
  rw [Nat.zero_add] at h2
  exact ⟨g, h1, by rw [h.own.len]; simp, h2⟩
theorem GridAt.cell (h : GridAt w base v bl r c f) {j k : Nat} (hj : j < r) (hk : k < c) : w.cell? ⟨bl j, k, none⟩ = some (.int .u8 ((f j k).toNat : Int)) := by
  obtain ⟨cur, h1, h2, h3⟩ := h.row j hj
  rw [cell_of_row w (bl j) k _ _ _ h1, h3 k hk]
  rfl
theorem GridAt.frozen (h : GridAt w base v bl r c f) {j : Nat} (hj : j < r) (k : Nat) : w.frozen? ⟨bl j, k, none⟩ = false := by
  obtain ⟨cur, h1, h2, h3⟩ := h.row j hj
  exact frozen_of_row w (bl j) k _ _ h1
theorem GridAt.set (h : GridAt w base v bl r c f) {i k : Nat} (hi : i < r) (hk : k < c) (x : UInt8) (u : Value) (hu : u = bv x) : GridAt (w.setCell ⟨bl i, k, none⟩ u) base v bl r c (setF f i k x) := by
  subst hu
  have hkp : Kp (fun q => q = bl i) w (w.setCell ⟨bl i, k, none⟩ (bv x)) := Kp.setCell (p := ⟨bl i, k, none⟩) (S := fun q => q = bl i) rfl _
  refine ⟨h.own.keep hkp fun q hq e => ?_, fun j hj => ?_, h.inj, h.bas⟩
  · subst e
    exact h.ne hi hq
  · obtain ⟨cur, h1, h2, h3⟩ := h.row j hj
    by_cases e : j = i
    · subst e
      refine ⟨cur.setIfInBounds k (bv x), heap_setCell_same w (bl j) k cur _ _ h1, by rw [Array.size_setIfInBounds]; exact h2, fun k' hk' => ?_⟩
      rw [Array.getElem?_setIfInBounds]
      unfold setF
      by_cases e2 : k = k'
      · subst e2
        rw [if_pos rfl, if_pos (by omega), if_pos ⟨rfl, rfl⟩]
      · rw [if_neg e2, if_neg (fun hh => e2 hh.2.symm)]
        exact h3 k' hk'
    · refine ⟨cur, ?_, h2, fun k' hk' => ?_⟩
      · rw [hkp.block (bl j) (Array.getElem?_eq_some_iff.1 h1).1 (fun e' => e (h.inj j i hj hi e'))]
        exact h1
      · unfold setF
        rw [if_neg (fun hh => e hh.1)]
        exact h3 k' hk'
theorem GridAt.bts (h : GridAt w base v bl r c f) {j : Nat} (hj : j < r) : Bts w (.slice (some ⟨bl j, 0, none⟩) c c) (rowL c (f j)) := by
  refine ⟨_, c, by rw [rowL_len], (fun h => by cases h), fun ad ha k u hu => ?_⟩
  injection ha with ha
  subst ha
  have hk : k < c := by have := (List.getElem?_eq_some_iff.1 hu).1; rwa [rowL_len] at this
  rw [rowL_get _ hk] at hu
  injection hu with hu
  subst hu
  rw [add_none, Nat.zero_add]
  exact h.cell hj hk
theorem GridAt.rws {A : Option Addr} {n cp : Nat} (h : GridAt w base (.slice A n cp) bl r c f) : Rws w A n (matL r c f) := by
  refine h.own.rws (by simp [matL_len]) fun j u bs hj hbs => ?_
  have hjr : j < r := by have := (List.getElem?_eq_some_iff.1 hj).1; simpa using this
  rw [matL_get f hjr] at hbs
  simp [hjr] at hj hbs
  subst hj hbs
  exact h.bts hjr
theorem GridAt.kpset (h : GridAt w base v bl r c f) {i : Nat} (hi : i < r) (k : Nat) (u : Value) : Kp (fun q => base ≤ q) w (w.setCell ⟨bl i, k, none⟩ u) := Kp.setCell (p := ⟨bl i, k, none⟩) (h.bas i hi) u
/-- One row more. -/
theorem GridAt.step {w3 : World} {v1 : Value} {o : Obj} (h : GridAt w base v bl r c fun _ _ => 0) (hb : base ≤ w.heap.size)
    (ha : AppV ((w.alloc (.cells (zc c) 5)).alloc o) base v ((List.range r).map fun j => .slice (some ⟨bl j, 0, none⟩) c c) (.slice (some ⟨w.heap.size, 0, none⟩) c c) v1 w3) :
    GridAt w3 base v1 (fun j => if j = r then w.heap.size else bl j) (r + 1) c fun _ _ => 0 := by
  have h2 : GridAt ((w.alloc (.cells (zc c) 5)).alloc o) base v bl r c fun _ _ => 0 := (h.no (Kp.alloc No _ _)).no (Kp.alloc No _ _)
  have hlt : ∀ j, j < r → bl j < w.heap.size := fun j hj => by
    obtain ⟨cur, h1, _⟩ := h.row j hj
    exact (Array.getElem?_eq_some_iff.1 h1).1
  refine ⟨?_, fun j hj => ?_, fun i j hi hj e => ?_, fun j hj => ?_⟩
  · have e : ((List.range (r + 1)).map fun j => Value.slice (some ⟨(if j = r then w.heap.size else bl j), 0, none⟩) c c) = ((List.range r).map fun j => .slice (some ⟨bl j, 0, none⟩) c c) ++ [.slice (some ⟨w.heap.size, 0, none⟩) c c] := by
      rw [List.range_succ, List.map_append]
      congr 1
      · refine List.map_congr_left fun j hj => ?_
        have := List.mem_range.1 hj
        rw [if_neg (by omega)]
      · simp
    rw [e]
    exact ha.own
  · by_cases e : j = r
    · subst e
      refine ⟨zc c, ?_, zc_size c, fun k hk => zc_get hk⟩
      rw [if_pos rfl, ha.kp.block w.heap.size (by simp; omega) ?_, Below.heap_alloc _ _ _ (by simp)]
      · exact heap_alloc_new w _
      · intro hv
        exact absurd (h.own.lt _ hv) (by omega)
    · obtain ⟨cur, h1, h3, h4⟩ := h2.row j (by omega)
      refine ⟨cur, ?_, h3, h4⟩
      rw [if_neg e, ha.kp.block (bl j) (Array.getElem?_eq_some_iff.1 h1).1 (h2.ne (by omega))]
      exact h1
  · by_cases e1 : i = r <;> by_cases e2 : j = r
    · omega
    · rw [if_pos e1, if_neg e2] at e
      have := hlt j (by omega)
      omega
    · rw [if_neg e1, if_pos e2] at e
      have := hlt i (by omega)
      omega
    · rw [if_neg e1, if_neg e2] at e
      exact h.inj i j (by omega) (by omega) e
  · by_cases e : j = r
    · rw [if_pos e]; exact hb
    · rw [if_neg e]; exact h.bas j (by omega)
end

theorem fresh_cell1 (w : World) (o : Obj) (u : Value) (t : TypeId) : ((w.alloc o).alloc (.cells #[u] t)).cell? ⟨w.heap.size + 1, 0, none⟩ = some u := by simp
/-- Rows of rows of the call's own come back. -/
def GridPost (w : World) (r c : Nat) (f : Nat → Nat → UInt8) (e : Ending) (w1 : World) : Prop :=
  ∃ A cp bl, e = .returned (.slice A r cp) ∧ GridAt w1 w.heap.size (.slice A r cp) bl r c f ∧ Kp No w w1

/-- An element of rows. -/
theorem Rws.elem {w : World} {B off n c : Nat} {bss : List (List UInt8)} (h : Rws w (some ⟨B, off, none⟩) n bss) (hR : Rect bss n c) {i k : Nat} (hi : i < n) (hk : k < c) :
    ∃ B1 o1 c1, w.cell? ⟨B, off + i, none⟩ = some (.slice (some ⟨B1, o1, none⟩) c c1) ∧ w.cell? ⟨B1, o1 + k, none⟩ = some (.int .u8 ((fnL bss i k).toNat : Int)) := by
  obtain ⟨B', off', A1, m1, cp1, b1, hA, hc1, hb1, hbt1⟩ := h.get hi
  injection hA with hA
  injection hA with hA1 hA2
  subst hA1 hA2
  have hm1 : c = m1 := by rw [hbt1.len]; exact (hR.row i b1 hb1).symm
  subst hm1
  obtain ⟨B2, o2, x, rfl, hx, c2⟩ := hbt1.at_ hk
  rw [← (fnL_of hb1 k).trans (lg_of hx)] at c2
  exact ⟨B2, o2, cp1, hc1, c2⟩
theorem Rws.head {w : World} {A : Option Addr} {n c : Nat} {bss : List (List UInt8)} (h : Rws w A n bss) (hR : Rect bss n c) : ∃ B off A0 cp0, A = some ⟨B, off, none⟩ ∧ w.cell? ⟨B, off, none⟩ = some (.slice A0 c cp0) := by
  obtain ⟨B, off, A0, m0, cp0, b0, rfl, hc0, hb0, hbt0⟩ := h.get (j := 0) (by have := hR.r1; omega)
  rw [Nat.add_zero] at hc0
  have hm0 : c = m0 := by rw [hbt0.len]; exact (hR.row 0 b0 hb0).symm
  subst hm0
  exact ⟨B, off, A0, cp0, rfl, hc0⟩

end Go.Proofs.Ytllcmblkjcppnaa
