/- Arguments opened to cells: rows of bytes, bytes, whole numbers. No condition. -/
import Derived.Test.YtikegnhjnbjclaaOp
import Derived.Test.YtikegnhjnbjclaaRw
namespace Go.Proofs.Ytikegnhjnbjclaa
open Go.ChangeShapes Go.WideShapes Go.RowKit Go.Deep
set_option linter.unusedVariables false

theorem cells_bts : Try.prog.cellsOf 22 = 1 := by kernel_rfl

section
variable {H : Type} {enc : TypeId × Value → H} {w : World} {base : Nat} {spare : Nat → Bool} {held : Bool} {fuel : Nat} {v : Value} {x : DataW H × List MemPlace}

set_option maxRecDepth 20000 in
theorem open_rws (h : DataW.trod enc Try.prog w base spare held fuel 25 [v] = some x) : ∃ A n c bss, v = .slice A n c ∧ Rws w A n bss ∧ n ≤ maxLen := by
  obtain ⟨A, len, cap, n, rfl, hl, hnil, hi⟩ := open_elems Try.underlying25 h
  have hch : ∀ i, i < len → ∃ bs, ∃ B off v, A = some ⟨B, off, none⟩ ∧ w.cell? ⟨B, off + i, none⟩ = some v ∧ Bts w v bs := by
    intro i hil
    obtain ⟨a, cs, y, rfl, hcl, hat, ht⟩ := hi i hil
    rw [cells_bts] at hcl hat
    match cs, hcl with
    | [v0], _ =>
      obtain ⟨A', m, c, bs, rfl, hb, _⟩ := open_bts Try.underlying22 Try.underlying5 cells_u8 ht
      obtain ⟨B, off, spot⟩ := a
      have hc := hat 0 (by omega)
      rw [Nat.mul_one, Nat.add_zero] at hc
      have hspot : spot = none := by
        obtain ⟨a', cs', y', ha', hcl', hat', _⟩ := hi 0 (by omega)
        injection ha' with ha'
        subst ha'
        rw [cells_bts] at hcl' hat'
        have := hat' 0 (by omega)
        rw [List.getElem?_eq_getElem (by omega)] at this
        simpa [Addr.add] using World.cell?_spot this
      subst hspot
      rw [add_none] at hc
      exact ⟨bs, B, off, _, rfl, hc, hb⟩
  have hlist : ∀ k, k ≤ len → ∃ bss : List (List UInt8), bss.length = k ∧ ∀ (j : Nat) bs, bss[j]? = some bs → ∃ B off v, A = some ⟨B, off, none⟩ ∧ w.cell? ⟨B, off + j, none⟩ = some v ∧ Bts w v bs := by
    intro k
    induction k with
    | zero => exact fun _ => ⟨[], rfl, fun j d hj => by simp at hj⟩
    | succ k ih =>
      intro hk
      obtain ⟨ds, hl, hd⟩ := ih (by omega)
      obtain ⟨d, hd'⟩ := hch k (by omega)
      refine ⟨ds ++ [d], by simp [hl], fun j e hj => ?_⟩
      rcases Nat.lt_or_ge j k with g | g
      · rw [List.getElem?_append_left (by omega)] at hj
        exact hd j e hj
      · rw [List.getElem?_append_right (by omega)] at hj
        have hj0 : j - ds.length = 0 := by
          have := (List.getElem?_eq_some_iff.1 hj).1
          simp at this
          omega
        rw [hj0] at hj
        simp at hj
        subst hj
        obtain rfl : j = k := by omega
        exact hd'
  obtain ⟨bss, hl', hd⟩ := hlist len (Nat.le_refl _)
  exact ⟨A, len, cap, bss, rfl, ⟨hl'.symm, hd⟩, hl⟩
end
end Go.Proofs.Ytikegnhjnbjclaa
