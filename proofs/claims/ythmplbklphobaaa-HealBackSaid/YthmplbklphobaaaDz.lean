/- Slots and shards laid apart, in two rows of the call's own: words for MsrDecodes and layer 7's parted. No condition. -/
import Derived.Test.YthmplbklphobaaaMsc
namespace Go.Proofs.Ythmplbklphobaaa
open Go.RowKit
set_option linter.unusedVariables false
set_option linter.unusedSimpArgs false
set_option maxRecDepth 100000

theorem ownT_apart {w : World} {b b' : Nat} {e e' : TypeId} {sz sz' n n' : Nat} {v v' : Value} {xs xs' : List Value} (h : OwnT w b e sz v n xs) (h' : OwnT w b' e' sz' v' n' xs') (hne : e ≠ e') {k : Nat} (hk : v.ownBlock = some k) : v'.ownBlock ≠ some k := fun hk' => by
  obtain ⟨c1, h1⟩ := h.kind hk
  obtain ⟨c2, h2⟩ := h'.kind hk'
  rw [h1] at h2
  injection h2 with h2
  injection h2 with h3 h4
  exact hne h4
theorem map_snoc {α : Type} (f : Nat → α) (i : Nat) : (List.range i).map f ++ [f i] = (List.range (i + 1)).map f := by
  rw [List.range_succ, List.map_append]
  rfl
/-- Whether the shard may stand there, the slots ahead aside. -/
def Ok1 (b' b : Bool) (s : Int) (n r r0 : Nat) : Prop := b' = true ↔ b = true ∧ (0 ≤ s ∧ s < (n : Int)) ∧ r ≠ 0 ∧ r = r0
def Ok2 (b'' b' : Bool) (sl : Nat → Int) (i mm : Nat) : Prop := b'' = true ↔ b' = true ∧ ∀ u, u < mm → sl u ≠ sl i
/-- The slots and the shards, in two rows of the call's own. -/
structure DwI (w : World) (sl : Nat → Int) (hd : Nat → Value) (i : Nat) (v1 v2 : Value) (wr : World) : Prop where
  o1 : OwnT wr w.heap.size 3 1 v1 i ((List.range i).map fun j => .int .i64 (sl j))
  o2 : OwnT wr w.heap.size 22 1 v2 i ((List.range i).map hd)
  kp : Kp No w wr
section
variable {w wr W1 w3 W2 w4 : World} {sl : Nat → Int} {hd : Nat → Value} {i : Nat} {v1 v2 v1' v2' : Value}
theorem DwI.no (h : DwI w sl hd i v1 v2 wr) (hk : Kp No wr W1) : DwI w sl hd i v1 v2 W1 := ⟨h.o1.no hk, h.o2.no hk, h.kp.trans' hk⟩
theorem DwI.mid (h : DwI w sl hd i v1 v2 wr) (k1 : Kp No wr W1) (ha1 : AppT W1 w.heap.size 3 1 v1 i ((List.range i).map fun j => .int .i64 (sl j)) 1 [.int .i64 (sl i)] v1' w3) (k2 : Kp No w3 W2) : OwnT W2 w.heap.size 22 1 v2 i ((List.range i).map hd) :=
  ((h.o2.no k1).keep ha1.kp fun k hk e => ownT_apart (h.o2.no k1) (h.o1.no k1) (by decide) hk e).no k2
theorem DwI.fin (h : DwI w sl hd i v1 v2 wr) (k1 : Kp No wr W1) (ha1 : AppT W1 w.heap.size 3 1 v1 i ((List.range i).map fun j => .int .i64 (sl j)) 1 [.int .i64 (sl i)] v1' w3) (k2 : Kp No w3 W2) (ha2 : AppT W2 w.heap.size 22 1 v2 i ((List.range i).map hd) 1 [hd i] v2' w4) : DwI w sl hd (i + 1) v1' v2' w4 := by
  have hm := h.mid k1 ha1 k2
  have h1 := ha1.own.no k2
  refine ⟨?_, ?_, ?_⟩
  · have := h1.keep ha2.kp fun k hk e => ownT_apart h1 hm (by decide) hk e
    rwa [map_snoc (fun j => Value.int .i64 (sl j))] at this
  · have := ha2.own
    rwa [map_snoc hd] at this
  · exact ha2.keeps hm ((ha1.keeps (h.o1.no k1) (h.kp.trans' k1)).trans' k2)
theorem DwI.slot {A : Option Addr} {r c : Nat} (h : DwI w sl hd i (.slice A r c) v2 wr) (hi : 0 < i) : ∃ g, A = some ⟨g, 0, none⟩ ∧ i = r ∧ ∀ j, j < i → wr.cell? ⟨g, 0 + j, none⟩ = some (.int .i64 (sl j)) := by
  have get : ∀ j, j < i → ((List.range i).map fun j => Value.int .i64 (sl j))[j]? = some (.int .i64 (sl j)) := fun j hj => by simp [hj]
  obtain ⟨g, e, _⟩ := h.o1.cell (get 0 hi)
  refine ⟨g, e, ?_, fun j hj => ?_⟩
  · obtain ⟨A', c', e2⟩ := h.o1.form
    injection e2 with _ e3 _
    exact e3.symm
  · obtain ⟨g', e', _, _, _, hc⟩ := h.o1.cell (get j hj)
    rw [e] at e'
    injection e' with e'
    injection e' with e'
    subst e'
    rw [Nat.zero_add]
    exact hc
theorem DwI.rows {A : Option Addr} {r c : Nat} {ds : Nat → List UInt8} (h : DwI w sl hd i v1 (.slice A r c) wr) (hb : ∀ j, j < i → Bts w (hd j) (ds j)) : i = r ∧ Rws wr A i ((List.range i).map ds) := by
  refine ⟨?_, ⟨by simp, fun j bs hj => ?_⟩⟩
  · obtain ⟨A', c', e2⟩ := h.o2.form
    injection e2 with _ e3 _
    exact e3.symm
  · have hji : j < i := by have := (List.getElem?_eq_some_iff.1 hj).1; simpa using this
    obtain ⟨g, e, _, _, _, hc⟩ := h.o2.cell (j := j) (u := hd j) (by simp [hji])
    simp [hji] at hj
    subst hj
    exact ⟨g, 0, hd j, e, by rw [Nat.zero_add]; exact hc, (hb j hji).no h.kp⟩
end
end Go.Proofs.Ythmplbklphobaaa
