/- The arguments of layer 19's statements as they lie in memory: jobs, and acts. No condition. -/
import Derived.Test.YtjbnbbblafmldaaUaaf
import Derived.Test.YtjbnbbblafmldaaUaaw
import Derived.OpenShut
import Derived.Lib.SmallJoins
namespace Go.Proofs.Ytjbnbbblafmldaa
open Go.RowKit Go.ChangeShapes Go.WideShapes Go.Deep Go.Joins
set_option linter.unusedVariables false
set_option maxRecDepth 20000

theorem cells_rj : Try.prog.cellsOf 26 = 3 := by kernel_rfl
section
variable {H : Type} {enc : TypeId × Value → H} {w : World} {base : Nat} {spare : Nat → Bool} {held : Bool} {fuel : Nat} {v : Value} {x : DataW H × List MemPlace}
theorem open_rj {cs : List Value} {y : DataW H × List MemPlace} (h : DataW.trod enc Try.prog w base spare held fuel 26 cs = some y) : ∃ z, z < NJ ∧ cs = [.int .u32 (jO z : Int), .int .u16 (jS z : Int), .int .i64 (jG z)] := by
  obtain ⟨n, hl, hf⟩ := open_parts Try.underlying26 h
  rw [cells_rj] at hl
  match cs, hl with
  | [v0, v1, v2], _ =>
    obtain ⟨y0, h0⟩ := hf 0 23 0 _ rfl sh_one.1
    obtain ⟨y1, h1⟩ := hf 1 24 1 _ rfl sh_one.2
    obtain ⟨y2, h2⟩ := hf 2 3 2 _ rfl ui_one
    simp only [List.drop_zero, List.drop_succ_cons, List.take_succ_cons, List.take_zero] at h0 h1 h2
    obtain ⟨a, e0, _, w0⟩ := DataW.trod_int Try.underlying23 h0
    obtain ⟨b, e1, _, w1⟩ := DataW.trod_int Try.underlying24 h1
    obtain ⟨c, e2, _, w2⟩ := DataW.trod_int Try.underlying3 h2
    simp only [List.cons.injEq, and_true] at e0 e1 e2
    subst e0 e1 e2
    obtain ⟨a0, rfl, b0⟩ := of_u32 w0
    obtain ⟨a1, rfl, b1⟩ := of_u16 w1
    have b2 := bounds_i64 w2
    refine ⟨mkJ a0 a1 c, mkJ_lt b0 b1 b2.1 b2.2, ?_⟩
    rw [jO_mk b0 b1, jS_mk b0 b1, jG_mk b0 b1 b2.1]
theorem open_rjs (h : DataW.trod enc Try.prog w base spare held fuel 30 [v] = some x) : ∃ A n c l, v = .slice A n c ∧ RdJ w A n l ∧ (∀ z ∈ l, z < NJ) ∧ n ≤ 9223372036854775807 := by
  obtain ⟨A, len, cap, n, rfl, hl, _, hi⟩ := open_elems Try.underlying30 h
  have hch : ∀ i, ∃ p : Nat, p < NJ ∧ (i < len → ∃ B off, A = some ⟨B, off, none⟩ ∧ w.cell? ⟨B, off + i * 3, none⟩ = some (.int .u32 (jO p : Int)) ∧ w.cell? ⟨B, off + i * 3 + 1, none⟩ = some (.int .u16 (jS p : Int)) ∧ w.cell? ⟨B, off + i * 3 + 2, none⟩ = some (.int .i64 (jG p))) := by
    intro i
    by_cases hil : i < len
    · obtain ⟨a, cs, y, rfl, hcl, hat, ht⟩ := hi i hil
      rw [cells_rj] at hcl hat
      obtain ⟨z, hz, rfl⟩ := open_rj ht
      obtain ⟨B, off, spot⟩ := a
      have hspot : spot = none := by
        obtain ⟨a', cs', y', ha', hcl', hat', _⟩ := hi 0 (by omega)
        injection ha' with ha'
        subst ha'
        rw [cells_rj] at hcl' hat'
        have := hat' 0 (by omega)
        rw [List.getElem?_eq_getElem (by omega)] at this
        simpa [Addr.add] using World.cell?_spot this
      subst hspot
      have h0 := hat 0 (by omega)
      have h1 := hat 1 (by omega)
      have h2 := hat 2 (by omega)
      rw [add_none] at h0 h1 h2
      exact ⟨z, hz, fun _ => ⟨B, off, rfl, h0, by rw [Nat.add_assoc]; exact h1, by rw [Nat.add_assoc]; exact h2⟩⟩
    · exact ⟨0, by unfold NJ; omega, fun h => absurd h hil⟩
  refine ⟨A, len, cap, (List.range len).map fun i => Classical.choose (hch i), rfl, ⟨by simp, fun j x hx => ?_⟩, fun z hz => ?_, by unfold maxLen at hl; omega⟩
  · rw [List.getElem?_map, Option.map_eq_some_iff] at hx
    obtain ⟨i, hi2, rfl⟩ := hx
    obtain ⟨hlt, e⟩ := List.getElem?_eq_some_iff.1 hi2
    rw [List.getElem_range] at e
    subst e
    exact (Classical.choose_spec (hch j)).2 (by simpa using hlt)
  · obtain ⟨i, _, rfl⟩ := List.mem_map.1 hz
    exact (Classical.choose_spec (hch i)).1
end
end Go.Proofs.Ytjbnbbblafmldaa
