/- Arguments opened to cells: a slice of the document's requests of layer 15. No condition. -/
import Derived.Test.YtnfcfdhlmeimhaaGreatTwbe
namespace Go.Proofs.YtnfcfdhlmeimhaaGreat
open Go.ChangeShapes Go.WideShapes Go.RowKit Go.Deep Go.Joins
set_option linter.unusedVariables false
set_option maxRecDepth 100000

/-- A request's eight cells. -/
structure RqAt (w : World) (B off : Nat) (q : Rq) (A : Option Addr) (m c : Nat) : Prop where
  c0 : w.cell? ⟨B, off, none⟩ = some (.int .u64 (q.num : Int))
  c1 : w.cell? ⟨B, off + 1, none⟩ = some (.int .i64 q.kind)
  c2 : w.cell? ⟨B, off + 2, none⟩ = some (.int .u32 (cO q.s : Int))
  c3 : w.cell? ⟨B, off + 3, none⟩ = some (.int .u16 (cS q.s : Int))
  c4 : w.cell? ⟨B, off + 4, none⟩ = some (.int .u16 (cL q.s : Int))
  c5 : w.cell? ⟨B, off + 5, none⟩ = some (.int .u32 (cG q.s : Int))
  c6 : w.cell? ⟨B, off + 6, none⟩ = some (.int .u16 (q.lost : Int))
  c7 : w.cell? ⟨B, off + 7, none⟩ = some (.slice A m c)
  bts : Bts w (.slice A m c) q.data
  fit : q.Fit
theorem RqAt.no {w w1 : World} {B off : Nat} {q : Rq} {A : Option Addr} {m c : Nat} (h : RqAt w B off q A m c) (hk : Kp No w w1) : RqAt w1 B off q A m c :=
  ⟨hk.cell h.c0 fun f => f, hk.cell h.c1 fun f => f, hk.cell h.c2 fun f => f, hk.cell h.c3 fun f => f, hk.cell h.c4 fun f => f, hk.cell h.c5 fun f => f, hk.cell h.c6 fun f => f, hk.cell h.c7 fun f => f, h.bts.no hk, h.fit⟩
/-- The slice at A holds the requests qs. -/
structure Rqs (w : World) (A : Option Addr) (n : Nat) (qs : List Rq) : Prop where
  len : n = qs.length
  big : n ≤ 9223372036854775807
  at_ : ∀ (j : Nat) (q : Rq), qs[j]? = some q → ∃ B off A' m c, A = some ⟨B, off, none⟩ ∧ RqAt w B (off + j * 8) q A' m c
theorem Rqs.no {w w1 : World} {A : Option Addr} {n : Nat} {qs : List Rq} (h : Rqs w A n qs) (hk : Kp No w w1) : Rqs w1 A n qs :=
  ⟨h.len, h.big, fun j q hj => by
    obtain ⟨B, off, A', m, c, e, ha⟩ := h.at_ j q hj
    exact ⟨B, off, A', m, c, e, ha.no hk⟩⟩
section
variable {H : Type} {enc : TypeId × Value → H} {w : World} {base : Nat} {spare : Nat → Bool} {held : Bool} {fuel : Nat}
theorem open_rqs {v : Value} {x : DataW H × List MemPlace} (h : DataW.trod enc Tryz.prog w base spare held fuel 73 [v] = some x) :
    ∃ A n c qs, v = .slice A n c ∧ Rqs w A n qs := by
  obtain ⟨A, len, cap, n, rfl, hl, _, hi⟩ := open_elems Tryz.underlying73 h
  have hch : ∀ i, i < len → ∃ d, ∃ B off A' m c, A = some ⟨B, off, none⟩ ∧ RqAt w B (off + i * 8) d A' m c := by
    intro i hil
    obtain ⟨a, cs, y, rfl, hcl, hat, ht⟩ := hi i hil
    rw [cells_rqv] at hcl hat
    obtain ⟨d, u, hf, he, hb⟩ := open_rq ht
    obtain ⟨A', m, c, rfl⟩ := hb.form
    simp only [rqV, Value.agg.injEq, Array.mk.injEq] at he
    subst he
    obtain ⟨B, off, spot⟩ := a
    have hspot : spot = none := by
      obtain ⟨a', cs', y', ha', hcl', hat', _⟩ := hi 0 (by omega)
      injection ha' with ha'
      subst ha'
      rw [cells_rqv] at hcl' hat'
      have := hat' 0 (by omega)
      rw [List.getElem?_eq_getElem (by omega)] at this
      simpa [Addr.add] using World.cell?_spot this
    subst hspot
    have at' : ∀ j x, ([.int .u64 (d.num : Int), .int .i64 d.kind, .int .u32 (cO d.s : Int), .int .u16 (cS d.s : Int), .int .u16 (cL d.s : Int), .int .u32 (cG d.s : Int), .int .u16 (d.lost : Int), .slice A' m c] : List Value)[j]? = some x → w.cell? ⟨B, off + i * 8 + j, none⟩ = some x := by
      intro j x hx
      have hj : j < 8 := (List.getElem?_eq_some_iff.1 hx).1
      have := hat j hj
      rw [add_none, hx] at this
      rw [Nat.add_assoc]
      exact this
    exact ⟨d, B, off, A', m, c, rfl, at' 0 _ rfl, at' 1 _ rfl, at' 2 _ rfl, at' 3 _ rfl, at' 4 _ rfl, at' 5 _ rfl, at' 6 _ rfl, at' 7 _ rfl, hb, hf⟩
  have hlist : ∀ k, k ≤ len → ∃ ds : List Rq, ds.length = k ∧ ∀ (j : Nat) (d : Rq), ds[j]? = some d → ∃ B off A' m c, A = some ⟨B, off, none⟩ ∧ RqAt w B (off + j * 8) d A' m c := by
    intro k
    induction k with
    | zero => exact fun _ => ⟨[], rfl, fun j d hj => by simp at hj⟩
    | succ k ih =>
      intro hk
      obtain ⟨ds, hl, hd⟩ := ih (by omega)
      obtain ⟨d, hd'⟩ := hch k (by omega)
      refine ⟨ds ++ [d], by simp [hl], fun j e hj => ?_⟩
      rcases Nat.lt_or_ge j k with g | g
      · rw [List.getElem?_append_left (by omega)] at hj
        exact hd j e hj
      · rw [List.getElem?_append_right (by omega)] at hj
        have hj0 : j - ds.length = 0 := by
          have := (List.getElem?_eq_some_iff.1 hj).1
          simp at this
          omega
        rw [hj0] at hj
        simp at hj
        subst hj
        obtain rfl : j = k := by omega
        exact hd'
  obtain ⟨ds, hl', hd⟩ := hlist len (Nat.le_refl _)
  exact ⟨A, len, cap, ds, rfl, hl'.symm, by simp only [maxLen] at hl; omega, hd⟩
end
end Go.Proofs.YtnfcfdhlmeimhaaGreat
