/- Arguments opened to cells: shards with their slots. No condition. -/
import Derived.Test.YtbkelijmdpoanaaOp
import Derived.Test.YtbkelijmdpoanaaOr
import Derived.Test.YtbkelijmdpoanaaCk
namespace Go.Proofs.Ytbkelijmdpoanaa
open Go.ChangeShapes Go.WideShapes Go.RowKit Go.Deep
set_option linter.unusedVariables false
set_option maxRecDepth 100000

theorem cells_part : Try.prog.cellsOf 45 = 2 := by kernel_rfl
theorem cells_i64 : Try.prog.cellsOf 3 = 1 := by kernel_rfl
section
variable {H : Type} {enc : TypeId × Value → H} {w : World} {base : Nat} {spare : Nat → Bool} {held : Bool} {fuel : Nat} {v : Value} {x : DataW H × List MemPlace}
theorem open_part {cs : List Value} {y : DataW H × List MemPlace} (h : DataW.trod enc Try.prog w base spare held fuel 45 cs = some y) :
    ∃ (z : Int) (A : Option Addr) (m c : Nat) (bs : List UInt8), cs = [.int .i64 z, .slice A m c] ∧ Bts w (.slice A m c) bs := by
  obtain ⟨n, hl, hf⟩ := open_parts Try.underlying45 h
  rw [cells_part] at hl
  match cs, hl with
  | [v0, v1], _ =>
    obtain ⟨y0, h0⟩ := hf 0 3 0 _ rfl cells_i64
    obtain ⟨y1, h1⟩ := hf 1 29 1 _ rfl cells_bts
    simp only [List.drop_zero, List.drop_succ_cons, List.take_succ_cons, List.take_zero] at h0 h1
    obtain ⟨z, e0, _, w0⟩ := DataW.trod_int Try.underlying3 h0
    obtain ⟨A, m, c, bs, e1, hb, hm⟩ := open_bts Try.underlying29 Try.underlying5 cells_u8 h1
    simp only [List.cons.injEq, and_true] at e0
    subst e0 e1
    exact ⟨z, A, m, c, bs, rfl, hb⟩
theorem open_prts (h : DataW.trod enc Try.prog w base spare held fuel 42 [v] = some x) : ∃ A m c sl ds, v = .slice A m c ∧ Prts w A m sl ds ∧ m ≤ c := by
  have hcap : ∃ A m c, v = .slice A m c ∧ m ≤ c := by
    rcases open_slice Try.underlying42 h with ⟨hcs, _⟩ | ⟨a, len, cap, m, n, D, Pl, hcs, _, hl, hm, hmm, _, hi⟩
    · simp only [List.cons.injEq, and_true] at hcs
      exact ⟨none, 0, 0, hcs, Nat.le_refl _⟩
    · simp only [List.cons.injEq, and_true] at hcs
      exact ⟨some a, len, cap, hcs, by omega⟩
  obtain ⟨A, len, cap, n, rfl, hl, _, hi⟩ := open_elems Try.underlying42 h
  obtain ⟨A2, m2, c2, e, hmc⟩ := hcap
  injection e with e1 e2 e3
  subst e1 e2 e3
  have hch : ∀ i, ∃ p : Int × List UInt8, i < len → ∃ B off A' r c, A = some ⟨B, off, none⟩ ∧ w.cell? ⟨B, off + i * 2, none⟩ = some (.int .i64 p.1) ∧ w.cell? ⟨B, off + i * 2 + 1, none⟩ = some (.slice A' r c) ∧ Bts w (.slice A' r c) p.2 := by
    intro i
    by_cases hil : i < len
    · obtain ⟨a, cs, y, rfl, hcl, hat, ht⟩ := hi i hil
      rw [cells_part] at hcl hat
      obtain ⟨z, A', m, c, bs, rfl, hb⟩ := open_part ht
      obtain ⟨B, off, spot⟩ := a
      have hspot : spot = none := by
        obtain ⟨a', cs', y', ha', hcl', hat', _⟩ := hi 0 (by omega)
        injection ha' with ha'
        subst ha'
        rw [cells_part] at hcl' hat'
        have := hat' 0 (by omega)
        rw [List.getElem?_eq_getElem (by omega)] at this
        simpa [Addr.add] using World.cell?_spot this
      subst hspot
      have h0 := hat 0 (by omega)
      have h1 := hat 1 (by omega)
      rw [add_none] at h0 h1
      refine ⟨(z, bs), fun _ => ⟨B, off, A', m, c, rfl, ?_, ?_, hb⟩⟩
      · rw [Nat.add_zero] at h0
        exact h0
      · rw [← Nat.add_assoc] at h1
        exact h1
    · exact ⟨(0, []), fun h => absurd h hil⟩
  obtain ⟨f, hf⟩ := Classical.axiomOfChoice hch
  exact ⟨A, len, cap, fun i => (f i).1, fun i => (f i).2, rfl, ⟨fun j hj => hf j hj⟩, hmc⟩
end
/-- The headers of the shards' bytes. -/
theorem Prts.heads {w : World} {A : Option Addr} {m : Nat} {sl : Nat → Int} {ds : Nat → List UInt8} (h : Prts w A m sl ds) : ∃ hd : Nat → Value, ∀ j, j < m → ∃ B off A' r c, A = some ⟨B, off, none⟩ ∧ w.cell? ⟨B, off + j * 2, none⟩ = some (.int .i64 (sl j)) ∧ w.cell? ⟨B, off + j * 2 + 1, none⟩ = some (.slice A' r c) ∧ hd j = .slice A' r c ∧ Bts w (.slice A' r c) (ds j) := by
  have hch : ∀ j, ∃ v : Value, j < m → ∃ B off A' r c, A = some ⟨B, off, none⟩ ∧ w.cell? ⟨B, off + j * 2, none⟩ = some (.int .i64 (sl j)) ∧ w.cell? ⟨B, off + j * 2 + 1, none⟩ = some (.slice A' r c) ∧ v = .slice A' r c ∧ Bts w (.slice A' r c) (ds j) := fun j => by
    by_cases hj : j < m
    · obtain ⟨B, off, A', r, c, h1, h2, h3, h4⟩ := h.at_ j hj
      exact ⟨_, fun _ => ⟨B, off, A', r, c, h1, h2, h3, rfl, h4⟩⟩
    · exact ⟨.slice none 0 0, fun h => absurd h hj⟩
  exact Classical.axiomOfChoice hch
end Go.Proofs.Ytbkelijmdpoanaa
