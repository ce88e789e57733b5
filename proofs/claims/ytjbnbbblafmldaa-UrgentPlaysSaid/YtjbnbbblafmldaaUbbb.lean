/- The arguments of layer 19's statements as they lie in memory: jobs, and acts. No condition. -/
import Derived.Test.YtjbnbbblafmldaaUbaf
import Derived.Test.YtjbnbbblafmldaaUbaw
import Derived.OpenShut
import Derived.Lib.SmallJoins
namespace Go.Proofs.Ytjbnbbblafmldaa
open Go.RowKit Go.ChangeShapes Go.WideShapes Go.Deep Go.Joins
set_option linter.unusedVariables false
set_option maxRecDepth 20000

/-- The slice at A holds n acts, of kinds K and with the jobs J. -/
structure ActsU (w : World) (A : Option Addr) (n : Nat) (K : Nat → Int) (J : Nat → Nat) : Prop where
  at_ : ∀ j, j < n → ∃ B off, A = some ⟨B, off, none⟩ ∧ w.cell? ⟨B, off + j * 4, none⟩ = some (.int .i64 (K j)) ∧ w.cell? ⟨B, off + j * 4 + 1, none⟩ = some (.int .u32 (jO (J j) : Int)) ∧ w.cell? ⟨B, off + j * 4 + 2, none⟩ = some (.int .u16 (jS (J j) : Int)) ∧ w.cell? ⟨B, off + j * 4 + 3, none⟩ = some (.int .i64 (jG (J j))) ∧ J j < NJ
  big : n ≤ 9223372036854775807
theorem ActsU.no {w w1 : World} {A : Option Addr} {n : Nat} {K : Nat → Int} {J : Nat → Nat} (h : ActsU w A n K J) (hk : Kp No w w1) : ActsU w1 A n K J :=
  ⟨fun j hj => by
    obtain ⟨B, off, e, h0, h1, h2, h3, h4⟩ := h.at_ j hj
    exact ⟨B, off, e, hk.cell h0 fun f => f, hk.cell h1 fun f => f, hk.cell h2 fun f => f, hk.cell h3 fun f => f, h4⟩, h.big⟩
theorem cells_rj : Try.prog.cellsOf 26 = 3 := by kernel_rfl
theorem cells_actu : Try.prog.cellsOf 32 = 4 := by kernel_rfl
section
variable {H : Type} {enc : TypeId × Value → H} {w : World} {base : Nat} {spare : Nat → Bool} {held : Bool} {fuel : Nat} {v : Value} {x : DataW H × List MemPlace}
theorem open_rj {cs : List Value} {y : DataW H × List MemPlace} (h : DataW.trod enc Try.prog w base spare held fuel 26 cs = some y) : ∃ z, z < NJ ∧ cs = [.int .u32 (jO z : Int), .int .u16 (jS z : Int), .int .i64 (jG z)] := by
  obtain ⟨n, hl, hf⟩ := open_parts Try.underlying26 h
  rw [cells_rj] at hl
  match cs, hl with
  | [v0, v1, v2], _ =>
    obtain ⟨y0, h0⟩ := hf 0 23 0 _ rfl sh_one.1
    obtain ⟨y1, h1⟩ := hf 1 24 1 _ rfl sh_one.2
    obtain ⟨y2, h2⟩ := hf 2 3 2 _ rfl ui_one
    simp only [List.drop_zero, List.drop_succ_cons, List.take_succ_cons, List.take_zero] at h0 h1 h2
    obtain ⟨a, e0, _, w0⟩ := DataW.trod_int Try.underlying23 h0
    obtain ⟨b, e1, _, w1⟩ := DataW.trod_int Try.underlying24 h1
    obtain ⟨c, e2, _, w2⟩ := DataW.trod_int Try.underlying3 h2
    simp only [List.cons.injEq, and_true] at e0 e1 e2
    subst e0 e1 e2
    obtain ⟨a0, rfl, b0⟩ := of_u32 w0
    obtain ⟨a1, rfl, b1⟩ := of_u16 w1
    have b2 := bounds_i64 w2
    refine ⟨mkJ a0 a1 c, mkJ_lt b0 b1 b2.1 b2.2, ?_⟩
    rw [jO_mk b0 b1, jS_mk b0 b1, jG_mk b0 b1 b2.1]
/-- A job by value. -/
theorem open_rjv {r : Reach} {b0 : Nat} {d : DataW H} {p : List MemPlace} (hv : Value.okWide Try.prog w r b0 26 v) (h : DataW.Trod enc Try.prog w base spare held 26 v d p) : ∃ z, z < NJ ∧ v = jbV z := by
  obtain ⟨cs, rfl, hsz⟩ := okWide_struct Try.underlying26 hv
  obtain ⟨l⟩ := cs
  obtain ⟨fuel, hf⟩ := h
  obtain ⟨z, hz, e⟩ := open_rj (cs := l) hf
  exact ⟨z, hz, by rw [e]⟩
theorem open_actu {cs : List Value} {y : DataW H × List MemPlace} (h : DataW.trod enc Try.prog w base spare held fuel 32 cs = some y) : ∃ (a : Int) (z : Nat), z < NJ ∧ cs = [.int .i64 a, .int .u32 (jO z : Int), .int .u16 (jS z : Int), .int .i64 (jG z)] := by
  obtain ⟨n, hl, hf⟩ := open_parts Try.underlying32 h
  rw [cells_actu] at hl
  match cs, hl with
  | [v0, v1, v2, v3], _ =>
    obtain ⟨y0, h0⟩ := hf 0 3 0 _ rfl ui_one
    obtain ⟨y1, h1⟩ := hf 1 26 1 _ rfl cells_rj
    simp only [List.drop_zero, List.drop_succ_cons, List.take_succ_cons, List.take_zero] at h0 h1
    obtain ⟨a, e0, _, w0⟩ := DataW.trod_int Try.underlying3 h0
    obtain ⟨z, hz, e1⟩ := open_rj h1
    simp only [List.cons.injEq, and_true] at e0 e1
    obtain ⟨rfl, rfl, rfl⟩ := e1
    subst e0
    exact ⟨a, z, hz, rfl⟩
theorem open_actsu (h : DataW.trod enc Try.prog w base spare held fuel 22 [v] = some x) : ∃ A n c, ∃ p : Nat → Int × Nat, v = .slice A n c ∧ ActsU w A n (fun j => (p j).1) (fun j => (p j).2) := by
  obtain ⟨A, len, cap, n, rfl, hl, _, hi⟩ := open_elems Try.underlying22 h
  have hch : ∀ i, ∃ p : Int × Nat, i < len → ∃ B off, A = some ⟨B, off, none⟩ ∧ w.cell? ⟨B, off + i * 4, none⟩ = some (.int .i64 p.1) ∧ w.cell? ⟨B, off + i * 4 + 1, none⟩ = some (.int .u32 (jO p.2 : Int)) ∧ w.cell? ⟨B, off + i * 4 + 2, none⟩ = some (.int .u16 (jS p.2 : Int)) ∧ w.cell? ⟨B, off + i * 4 + 3, none⟩ = some (.int .i64 (jG p.2)) ∧ p.2 < NJ := by
    intro i
    by_cases hil : i < len
    · obtain ⟨a, cs, y, rfl, hcl, hat, ht⟩ := hi i hil
      rw [cells_actu] at hcl hat
      obtain ⟨z, t, hz, rfl⟩ := open_actu ht
      obtain ⟨B, off, spot⟩ := a
      have hspot : spot = none := by
        obtain ⟨a', cs', y', ha', hcl', hat', _⟩ := hi 0 (by omega)
        injection ha' with ha'
        subst ha'
        rw [cells_actu] at hcl' hat'
        have := hat' 0 (by omega)
        rw [List.getElem?_eq_getElem (by omega)] at this
        simpa [Addr.add] using World.cell?_spot this
      subst hspot
      have h0 := hat 0 (by omega)
      have h1 := hat 1 (by omega)
      have h2 := hat 2 (by omega)
      have h3 := hat 3 (by omega)
      rw [add_none] at h0 h1 h2 h3
      exact ⟨(z, t), fun _ => ⟨B, off, rfl, h0, by rw [Nat.add_assoc]; exact h1, by rw [Nat.add_assoc]; exact h2, by rw [Nat.add_assoc]; exact h3, hz⟩⟩
    · exact ⟨(0, 0), fun h => absurd h hil⟩
  exact ⟨A, len, cap, fun i => Classical.choose (hch i), rfl, fun j hj => Classical.choose_spec (hch j) hj, by unfold maxLen at hl; omega⟩
end
end Go.Proofs.Ytjbnbbblafmldaa
