/- Arguments opened to cells: the document's points, and slices of them. No condition. -/
import Derived.Test.YthbnomemknnmeaaBasf
import Derived.Lib.SmallJoins
namespace Go.Proofs.Ythbnomemknnmeaa
open Go.ChangeShapes Go.WideShapes Go.RowKit Go.Deep Go.Joins
set_option linter.unusedVariables false
set_option maxRecDepth 100000

/-- A slice of the document's points. -/
structure Rpts (w : World) (A : Option Addr) (m : Nat) (X Y : Nat → Int) : Prop where
  at_ : ∀ j, j < m → ∃ B off, A = some ⟨B, off, none⟩ ∧ w.cell? ⟨B, off + j * 2, none⟩ = some (.int .i64 (X j)) ∧ w.cell? ⟨B, off + j * 2 + 1, none⟩ = some (.int .i64 (Y j))
  big : ∀ j, j < m → (-9223372036854775808 ≤ X j ∧ X j ≤ 9223372036854775807) ∧ (-9223372036854775808 ≤ Y j ∧ Y j ≤ 9223372036854775807)
theorem cells_rpt : Try.prog.cellsOf 23 = 2 := by kernel_rfl
theorem cells_ri : Try.prog.cellsOf 3 = 1 := by kernel_rfl
theorem of_wf_int {n : Int} (h : (Lit.int .i64 n).wf = true) : -9223372036854775808 ≤ n ∧ n ≤ 9223372036854775807 := by
  simp [Lit.wf, IntKind.min, IntKind.max, IntKind.signed, IntKind.bits] at h
  omega
section
variable {H : Type} {enc : TypeId × Value → H} {w : World} {base : Nat} {spare : Nat → Bool} {held : Bool} {fuel : Nat} {v : Value} {x : DataW H × List MemPlace}
theorem open_rpt {cs : List Value} {y : DataW H × List MemPlace} (h : DataW.trod enc Try.prog w base spare held fuel 23 cs = some y) :
    ∃ a b : Int, cs = [.int .i64 a, .int .i64 b] ∧ (Lit.int .i64 a).wf = true ∧ (Lit.int .i64 b).wf = true := by
  obtain ⟨n, hl, hf⟩ := open_parts Try.underlying23 h
  rw [cells_rpt] at hl
  match cs, hl with
  | [v0, v1], _ =>
    obtain ⟨y0, h0⟩ := hf 0 3 0 _ rfl cells_ri
    obtain ⟨y1, h1⟩ := hf 1 3 1 _ rfl cells_ri
    simp only [List.drop_zero, List.drop_succ_cons, List.take_succ_cons, List.take_zero] at h0 h1
    obtain ⟨a, e0, _, w0⟩ := DataW.trod_int Try.underlying3 h0
    obtain ⟨b, e1, _, w1⟩ := DataW.trod_int Try.underlying3 h1
    simp only [List.cons.injEq, and_true] at e0 e1
    subst e0 e1
    exact ⟨a, b, rfl, w0, w1⟩
/-- A point by value. -/
theorem open_rptv {r : Reach} {b0 : Nat} {d : DataW H} {p : List MemPlace} (hv : Value.okWide Try.prog w r b0 23 v) (h : DataW.Trod enc Try.prog w base spare held 23 v d p) :
    ∃ a b : Int, v = .agg #[.int .i64 a, .int .i64 b] ∧ (Lit.int .i64 a).wf = true ∧ (Lit.int .i64 b).wf = true := by
  obtain ⟨cs, rfl, hsz⟩ := okWide_struct Try.underlying23 hv
  obtain ⟨l⟩ := cs
  obtain ⟨fuel, hf⟩ := h
  obtain ⟨a, b, e, h1, h2⟩ := open_rpt (cs := l) hf
  subst e
  exact ⟨a, b, rfl, h1, h2⟩
theorem open_rpts (h : DataW.trod enc Try.prog w base spare held fuel 37 [v] = some x) : ∃ A m c, ∃ p : Nat → Int × Int, v = .slice A m c ∧ Rpts w A m (fun j => (p j).1) (fun j => (p j).2) ∧ m ≤ maxLen := by
  obtain ⟨A, len, cap, n, rfl, hl, _, hi⟩ := open_elems Try.underlying37 h
  have hch : ∀ i, ∃ p : Int × Int, i < len → (∃ B off, A = some ⟨B, off, none⟩ ∧ w.cell? ⟨B, off + i * 2, none⟩ = some (.int .i64 p.1) ∧ w.cell? ⟨B, off + i * 2 + 1, none⟩ = some (.int .i64 p.2)) ∧ (Lit.int .i64 p.1).wf = true ∧ (Lit.int .i64 p.2).wf = true := by
    intro i
    by_cases hil : i < len
    · obtain ⟨a, cs, y, rfl, hcl, hat, ht⟩ := hi i hil
      rw [cells_rpt] at hcl hat
      obtain ⟨z, t, rfl, w1, w2⟩ := open_rpt ht
      obtain ⟨B, off, spot⟩ := a
      have hspot : spot = none := by
        obtain ⟨a', cs', y', ha', hcl', hat', _⟩ := hi 0 (by omega)
        injection ha' with ha'
        subst ha'
        rw [cells_rpt] at hcl' hat'
        have := hat' 0 (by omega)
        rw [List.getElem?_eq_getElem (by omega)] at this
        simpa [Addr.add] using World.cell?_spot this
      subst hspot
      have h0 := hat 0 (by omega)
      have h1 := hat 1 (by omega)
      rw [add_none] at h0 h1
      refine ⟨(z, t), fun _ => ⟨⟨B, off, rfl, ?_, ?_⟩, w1, w2⟩⟩
      · rw [Nat.add_zero] at h0
        exact h0
      · rw [← Nat.add_assoc] at h1
        exact h1
    · exact ⟨(0, 0), fun h => absurd h hil⟩
  obtain ⟨f, hf⟩ := Classical.axiomOfChoice hch
  exact ⟨A, len, cap, f, rfl, ⟨fun j hj => (hf j hj).1, fun j hj => ⟨of_wf_int (hf j hj).2.1, of_wf_int (hf j hj).2.2⟩⟩, hl⟩
end
end Go.Proofs.Ythbnomemknnmeaa
