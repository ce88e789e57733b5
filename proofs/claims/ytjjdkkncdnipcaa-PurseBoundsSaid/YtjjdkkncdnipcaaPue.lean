/- The acts of layer 18's statement as they lie in memory. No condition. -/
import Derived.Test.YtjjdkkncdnipcaaBasf
import Derived.Test.YtjjdkkncdnipcaaBase
import Derived.Deep.RegionHeld3
import Derived.OpenShut
namespace Go.Proofs.Ytjjdkkncdnipcaa
open Go.RowKit Go.ChangeShapes Go.WideShapes Go.Deep
set_option linter.unusedVariables false
set_option maxRecDepth 20000

/-- The slice at A holds n acts, of kinds K and numbers N. -/
structure ActsQ (w : World) (A : Option Addr) (n : Nat) (K : Nat → Int) (N : Nat → Nat) : Prop where
  at_ : ∀ j, j < n → ∃ B off, A = some ⟨B, off, none⟩ ∧ w.cell? ⟨B, off + j * 2, none⟩ = some (.int .i64 (K j)) ∧ w.cell? ⟨B, off + j * 2 + 1, none⟩ = some (.int .u64 (N j : Int)) ∧ N j ≤ 18446744073709551615
  big : n ≤ 9223372036854775807
theorem ActsQ.no {w w1 : World} {A : Option Addr} {n : Nat} {K : Nat → Int} {N : Nat → Nat} (h : ActsQ w A n K N) (hk : Kp No w w1) : ActsQ w1 A n K N :=
  ⟨fun j hj => by
    obtain ⟨B, off, e, h0, h1, h2⟩ := h.at_ j hj
    exact ⟨B, off, e, hk.cell h0 fun f => f, hk.cell h1 fun f => f, h2⟩, h.big⟩
theorem cells_actq : Try.prog.cellsOf 38 = 2 := by kernel_rfl
theorem cells_qi : Try.prog.cellsOf 3 = 1 := by kernel_rfl
theorem cells_qu : Try.prog.cellsOf 22 = 1 := by kernel_rfl
section
variable {H : Type} {enc : TypeId × Value → H} {w : World} {base : Nat} {spare : Nat → Bool} {held : Bool} {fuel : Nat} {v : Value} {x : DataW H × List MemPlace}
theorem open_actq {cs : List Value} {y : DataW H × List MemPlace} (h : DataW.trod enc Try.prog w base spare held fuel 38 cs = some y) : ∃ (a : Int) (b : Nat), cs = [.int .i64 a, .int .u64 (b : Int)] ∧ b ≤ 18446744073709551615 := by
  obtain ⟨n, hl, hf⟩ := open_parts Try.underlying38 h
  rw [cells_actq] at hl
  match cs, hl with
  | [v0, v1], _ =>
    obtain ⟨y0, h0⟩ := hf 0 3 0 _ rfl cells_qi
    obtain ⟨y1, h1⟩ := hf 1 22 1 _ rfl cells_qu
    simp only [List.drop_zero, List.drop_succ_cons, List.take_succ_cons, List.take_zero] at h0 h1
    obtain ⟨a, e0, _, w0⟩ := DataW.trod_int Try.underlying3 h0
    obtain ⟨b, e1, _, w1⟩ := DataW.trod_int Try.underlying22 h1
    have hb := bounds_u64 w1
    obtain ⟨b, rfl⟩ : ∃ y : Nat, b = y := ⟨b.toNat, by omega⟩
    simp only [List.cons.injEq, and_true] at e0 e1
    subst e0 e1
    exact ⟨a, b, rfl, by omega⟩
theorem open_actsq (h : DataW.trod enc Try.prog w base spare held fuel 23 [v] = some x) : ∃ A n c, ∃ p : Nat → Int × Nat, v = .slice A n c ∧ ActsQ w A n (fun j => (p j).1) (fun j => (p j).2) := by
  obtain ⟨A, len, cap, n, rfl, hl, _, hi⟩ := open_elems Try.underlying23 h
  have hch : ∀ i, ∃ p : Int × Nat, i < len → ∃ B off, A = some ⟨B, off, none⟩ ∧ w.cell? ⟨B, off + i * 2, none⟩ = some (.int .i64 p.1) ∧ w.cell? ⟨B, off + i * 2 + 1, none⟩ = some (.int .u64 (p.2 : Int)) ∧ p.2 ≤ 18446744073709551615 := by
    intro i
    by_cases hil : i < len
    · obtain ⟨a, cs, y, rfl, hcl, hat, ht⟩ := hi i hil
      rw [cells_actq] at hcl hat
      obtain ⟨z, t, rfl, htb⟩ := open_actq ht
      obtain ⟨B, off, spot⟩ := a
      have hspot : spot = none := by
        obtain ⟨a', cs', y', ha', hcl', hat', _⟩ := hi 0 (by omega)
        injection ha' with ha'
        subst ha'
        rw [cells_actq] at hcl' hat'
        have := hat' 0 (by omega)
        rw [List.getElem?_eq_getElem (by omega)] at this
        simpa [Addr.add] using World.cell?_spot this
      subst hspot
      have h0 := hat 0 (by omega)
      have h1 := hat 1 (by omega)
      rw [add_none] at h0 h1
      exact ⟨(z, t), fun _ => ⟨B, off, rfl, h0, by rw [Nat.add_assoc]; exact h1, htb⟩⟩
    · exact ⟨(0, 0), fun h => absurd h hil⟩
  exact ⟨A, len, cap, fun i => Classical.choose (hch i), rfl, fun j hj => Classical.choose_spec (hch j) hj, by unfold maxLen at hl; omega⟩
end
end Go.Proofs.Ytjjdkkncdnipcaa
