/- Slices of slices of bytes whose rows' capacities are known: read, opened. No condition. -/
import Derived.Test.YtikegnhjnbjclaaOr
namespace Go.Proofs.Ytikegnhjnbjclaa
open Go.ChangeShapes Go.WideShapes Go.RowKit Go.Deep
set_option linter.unusedVariables false
set_option maxRecDepth 20000

/-- No row is longer than there is room. -/
def Caps (w : World) (A : Option Addr) (n : Nat) : Prop := ∀ j, j < n → ∀ B off A' m c, A = some ⟨B, off, none⟩ → w.cell? ⟨B, off + j, none⟩ = some (.slice A' m c) → m ≤ c
structure Rwc (w : World) (A : Option Addr) (n : Nat) (bss : List (List UInt8)) : Prop where
  rws : Rws w A n bss
  cap : Caps w A n
theorem Rwc.no {w w1 : World} {A : Option Addr} {n : Nat} {bss : List (List UInt8)} (h : Rwc w A n bss) (hk : Kp No w w1) : Rwc w1 A n bss := by
  refine ⟨h.rws.no hk, fun j hj B off A' m c hA hc => ?_⟩
  obtain ⟨B', off', A1, m1, c1, b1, hA', hc1, _, _⟩ := h.rws.get hj
  have e : w.cell? ⟨B, off + j, none⟩ = some (.slice A1 m1 c1) := by
    rw [hA] at hA'
    injection hA' with hA'
    injection hA' with e1 e2
    subst e1 e2
    exact hc1
  rw [hk.cell e fun f => f] at hc
  injection hc with hc
  rw [hc] at e
  exact h.cap j hj B off A' m c hA e
theorem Rwc.get {w : World} {A : Option Addr} {n : Nat} {bss : List (List UInt8)} (h : Rwc w A n bss) {j : Nat} (hj : j < n) :
    ∃ B off A' m c bs, A = some ⟨B, off, none⟩ ∧ w.cell? ⟨B, off + j, none⟩ = some (.slice A' m c) ∧ bss[j]? = some bs ∧ Bts w (.slice A' m c) bs ∧ m ≤ c := by
  obtain ⟨B, off, A', m, c, bs, h1, h2, h3, h4⟩ := h.rws.get hj
  exact ⟨B, off, A', m, c, bs, h1, h2, h3, h4, h.cap j hj B off A' m c h1 h2⟩

section
variable {H : Type} {enc : TypeId × Value → H} {w : World} {base : Nat} {spare : Nat → Bool} {held : Bool} {fuel : Nat} {v : Value} {x : DataW H × List MemPlace}
theorem open_cap (h : DataW.trod enc Try.prog w base spare held fuel 22 [v] = some x) : ∃ A m c, v = .slice A m c ∧ m ≤ c := by
  rcases open_ints Try.underlying22 Try.underlying5 cells_u8 h with ⟨hcs, _⟩ | ⟨a, len, cap, zs, hcs, _, hl, hm, hz, _, hcell, hwz⟩
  · simp only [List.cons.injEq, and_true] at hcs
    exact ⟨none, 0, 0, hcs, Nat.le_refl _⟩
  · simp only [List.cons.injEq, and_true] at hcs
    exact ⟨some a, len, cap, hcs, by omega⟩
theorem open_rwc (h : DataW.trod enc Try.prog w base spare held fuel 25 [v] = some x) : ∃ A n c bss, v = .slice A n c ∧ Rwc w A n bss ∧ n ≤ maxLen := by
  obtain ⟨A, n, c, bss, rfl, hR, hn⟩ := open_rws h
  obtain ⟨A2, len, cap, q, e, hl, hnil, hi⟩ := open_elems Try.underlying25 h
  injection e with e1 e2 e3
  subst e1 e2 e3
  refine ⟨A, n, c, bss, rfl, ⟨hR, fun j hj B off A' m c' hA hc => ?_⟩, hn⟩
  obtain ⟨a, cs, y, ha, hcl, hat, ht⟩ := hi j hj
  rw [cells_bts] at hcl hat
  subst hA
  injection ha with ha
  subst ha
  match cs, hcl with
  | [v0], _ =>
    have h0 := hat 0 (by omega)
    rw [Nat.mul_one, Nat.add_zero, add_none, hc] at h0
    injection h0 with h0
    subst h0
    obtain ⟨A3, m3, c3, e, hle⟩ := open_cap ht
    injection e with e1 e2 e3
    omega
end
end Go.Proofs.Ytikegnhjnbjclaa
