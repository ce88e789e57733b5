/- Package mat's Pick, as a contract over memory; whole numbers in a slice. -/
import Derived.Test.YtbkelijmdpoanaaMw
namespace Go.Proofs.Ytbkelijmdpoanaa
open Go.RowKit
set_option linter.unusedVariables false

/-- The slice at A of n numbers reads as zs. -/
structure Ints (w : World) (A : Option Addr) (n : Nat) (zs : List Int) : Prop where
  len : n = zs.length
  at_ : ∀ (j : Nat) z, zs[j]? = some z → ∃ B off, A = some ⟨B, off, none⟩ ∧ w.cell? ⟨B, off + j, none⟩ = some (.int .i64 z)
theorem Ints.no {w w1 : World} {A : Option Addr} {n : Nat} {zs : List Int} (h : Ints w A n zs) (hk : Kp No w w1) : Ints w1 A n zs := by
  refine ⟨h.len, fun j z hj => ?_⟩
  obtain ⟨B, off, h1, h2⟩ := h.at_ j z hj
  exact ⟨B, off, h1, hk.cell h2 (fun f => f)⟩
theorem Ints.get {w : World} {A : Option Addr} {n : Nat} {zs : List Int} (h : Ints w A n zs) {j : Nat} (hj : j < n) : ∃ B off z, A = some ⟨B, off, none⟩ ∧ zs[j]? = some z ∧ w.cell? ⟨B, off + j, none⟩ = some (.int .i64 z) := by
  have hl := h.len
  obtain ⟨B, off, h1, h2⟩ := h.at_ j _ (List.getElem?_eq_getElem (by omega))
  exact ⟨B, off, _, h1, List.getElem?_eq_getElem (by omega), h2⟩

/-- The rows with these numbers. -/
def pickL (c : Nat) (f : Nat → Nat → UInt8) (zs : List Int) : List (List UInt8) := zs.map fun z => rowL c (f z.toNat)
theorem pickL_len (c : Nat) (f : Nat → Nat → UInt8) (zs : List Int) : (pickL c f zs).length = zs.length := by simp [pickL]
theorem pickL_get {c : Nat} {f : Nat → Nat → UInt8} {zs : List Int} {j : Nat} {z : Int} (h : zs[j]? = some z) : (pickL c f zs)[j]? = some (rowL c (f z.toNat)) := by simp [pickL, h]
theorem pickL_row {c : Nat} {f : Nat → Nat → UInt8} {zs : List Int} {j : Nat} {bs : List UInt8} (h : (pickL c f zs)[j]? = some bs) : bs.length = c := by
  unfold pickL at h
  rw [List.getElem?_map, Option.map_eq_some_iff] at h
  obtain ⟨z, _, rfl⟩ := h
  exact rowL_len _ _
theorem pickL_rect {c : Nat} {f : Nat → Nat → UInt8} {zs : List Int} (h1 : 1 ≤ zs.length) (h2 : zs.length ≤ 64) (c1 : 1 ≤ c) (c2 : c ≤ 64) : Rect (pickL c f zs) zs.length c :=
  ⟨pickL_len _ _ _, fun j bs hj => pickL_row hj, h1, h2, c1, c2⟩

/-- So many rows are picked. -/
structure PInv (w : World) (c : Nat) (f : Nat → Nat → UInt8) (zs : List Int) (k : Nat) (v : Value) (vs : List Value) (wr : World) : Prop where
  own : OwnV wr w.heap.size v vs
  len : vs.length = k
  row : ∀ (j : Nat) u, vs[j]? = some u → ∃ z, zs[j]? = some z ∧ Bts w u (rowL c (f z.toNat))
  kp : Kp No w wr
theorem PInv.step {w wr w3 : World} {c : Nat} {f : Nat → Nat → UInt8} {zs : List Int} {k : Nat} {v v1 u : Value} {vs : List Value} {o : Obj} {z : Int} (h : PInv w c f zs k v vs wr) (hz : zs[k]? = some z) (hu : Bts w u (rowL c (f z.toNat)))
    (ha : AppV (wr.alloc o) w.heap.size v vs u v1 w3) : PInv w c f zs (k + 1) v1 (vs ++ [u]) w3 := by
  have ho : OwnV (wr.alloc o) w.heap.size v vs := h.own.no (Kp.alloc No _ _)
  refine ⟨ha.own, by simp [h.len], fun j x hj => ?_, ha.keeps ho (h.kp.trans' (Kp.alloc No _ _))⟩
  rcases Nat.lt_or_ge j vs.length with g | g
  · rw [List.getElem?_append_left g] at hj
    exact h.row j x hj
  · rw [List.getElem?_append_right g] at hj
    have hj0 : j - vs.length = 0 := by
      have := (List.getElem?_eq_some_iff.1 hj).1
      simp at this
      omega
    rw [hj0] at hj
    simp at hj
    subst hj
    have e : j = k := by have := h.len; omega
    subst e
    exact ⟨z, hz, hu⟩
theorem PInv.sm {w wr w2 : World} {c : Nat} {f : Nat → Nat → UInt8} {zs : List Int} {k : Nat} {v : Value} {vs : List Value} (h : PInv w c f zs k v vs wr) (hs : Kp No wr w2) : PInv w c f zs k v vs w2 :=
  ⟨h.own.no hs, h.len, h.row, h.kp.trans' hs⟩
theorem PInv.rws {w wr : World} {c : Nat} {f : Nat → Nat → UInt8} {zs : List Int} {k : Nat} {A : Option Addr} {n cp : Nat} {vs : List Value} (h : PInv w c f zs k (.slice A n cp) vs wr) (hk : k = zs.length) : Rws wr A k (pickL c f zs) := by
  have hn := h.own.len
  rw [h.len] at hn
  subst hn
  refine h.own.rws (by rw [h.len, pickL_len]; exact hk) fun j u bs hj hbs => ?_
  obtain ⟨z, hz, hb⟩ := h.row j u hj
  rw [pickL_get hz] at hbs
  injection hbs with hbs
  subst hbs
  exact hb.no h.kp

section
variable {w : World} {m : MB} {r c n cp : Nat} {f : Nat → Nat → UInt8} {A : Option Addr} {zs : List Int}

theorem NewPost.of_kp {w w1 w2 : World} {r c : Nat} {f : Nat → Nat → UInt8} {e : Ending} (hk : Kp No w w1) (h : NewPost w1 r c f e w2) : NewPost w r c f e w2 := by
  obtain ⟨m, rfl, hM, hg, hb, hk2⟩ := h
  have := hk.size
  exact ⟨m, rfl, hM, by omega, by omega, hk.trans' hk2⟩
theorem ArgPost.of_kp {w w1 w2 : World} {e : Ending} (hk : Kp No w w1) (h : ArgPost w1 e w2) : ArgPost w e w2 := ⟨h.1, hk.trans' h.2⟩

/-- A pair comes back. -/
def PairPost (P : Value → Value → World → Prop) (e : Ending) (w1 : World) : Prop := ∃ a b, e = .returned (.tuple #[a, b]) ∧ P a b w1

end
end Go.Proofs.Ytbkelijmdpoanaa
