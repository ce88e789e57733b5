/- What a law of layer 19 knows of its queue; UrgentOrders walked: it returns true for any jobs. No condition. -/
import Derived.Test.YtjbnbbblafmldaaUbaz
import Derived.Deep.DeepCutAuto
import Derived.Deep.CutBlock
namespace Go.Proofs.Ytjbnbbblafmldaa
open Go.RowKit
set_option linter.unusedVariables false
set_option linter.unusedSimpArgs false
set_option maxRecDepth 20000

/-- The law's queue at g: the jobs r; what is its own is younger than W, and none of X. -/
structure QxS (W : World) (g : Nat) (X : Nat → Prop) (r : List Nat) (wr : World) : Prop where
  ex : ∃ F, QuAt wr F g r ∧ ∀ k, F k → W.heap.size ≤ k ∧ k < wr.heap.size ∧ ¬ X k
  kp : Kp No W wr
  xl : ∀ k, X k → k < wr.heap.size
/-- The law's young blocks but those of X. -/
def Fre (W : World) (X : Nat → Prop) (k : Nat) : Prop := W.heap.size ≤ k ∧ ¬ X k
section
variable {W wr w1 : World} {g b : Nat} {X : Nat → Prop} {r r' : List Nat} {v : Value}
theorem QxS.no (h : QxS W g X r wr) (hk : Kp No wr w1) : QxS W g X r w1 := by
  obtain ⟨F, hq, hF⟩ := h.ex
  exact ⟨⟨F, hq.no hk, fun k hk' => ⟨(hF k hk').1, Nat.lt_of_lt_of_le (hF k hk').2.1 hk.size, (hF k hk').2.2⟩⟩, h.kp.trans' hk, fun k hx => Nat.lt_of_lt_of_le (h.xl k hx) hk.size⟩
/-- A block more that is the law's own. -/
theorem QxS.add (h : QxS W g X r wr) (hk : Kp No wr w1) (h0 : wr.heap.size ≤ b) (h1 : b < w1.heap.size) : QxS W g (fun k => X k ∨ k = b) r w1 := by
  obtain ⟨F, hq, hF⟩ := h.ex
  refine ⟨⟨F, hq.no hk, fun k hk' => ⟨(hF k hk').1, Nat.lt_of_lt_of_le (hF k hk').2.1 hk.size, ?_⟩⟩, h.kp.trans' hk, fun k hx => ?_⟩
  · rintro (hx | hx)
    · exact (hF k hk').2.2 hx
    · have := (hF k hk').2.1
      omega
  · rcases hx with hx | hx
    · exact Nat.lt_of_lt_of_le (h.xl k hx) hk.size
    · omega
theorem QxS.less {Y : Nat → Prop} (h : QxS W g X r wr) (hY : ∀ k, Y k → X k) : QxS W g Y r wr := by
  obtain ⟨F, hq, hF⟩ := h.ex
  exact ⟨⟨F, hq, fun k hk => ⟨(hF k hk).1, (hF k hk).2.1, fun e => (hF k hk).2.2 (hY k e)⟩⟩, h.kp, fun k hx => h.xl k (hY k hx)⟩
theorem QxS.new (h : QuAt w1 (fun k => wr.heap.size ≤ k) g r) (hW : Kp No W wr) (hk : Kp No wr w1) (hX : ∀ k, X k → k < wr.heap.size) : QxS W g X r w1 :=
  ⟨⟨_, h.lt, fun k hk' => ⟨Nat.le_trans hW.size hk'.1, hk'.2, fun e => by have := hX k e; have := hk'.1; omega⟩⟩, hW.trans' hk, fun k hx => Nat.lt_of_lt_of_le (hX k hx) hk.size⟩
/-- What a call on the law's queue comes to. -/
def QxPost (W : World) (g : Nat) (X : Nat → Prop) (wr : World) (r : List Nat) (v : Value) (e : Ending) (w1 : World) : Prop := e = .returned v ∧ QxS W g X r w1 ∧ Kp (Fre W X) wr w1
theorem QxS.run (h : QxS W g X r wr) {f : Nat} {args : Array Value} (hc : ∀ F, QuAt wr F g r → Calls Try.prog f args wr (UqPost wr F g r' v)) : Calls Try.prog f args wr (QxPost W g X wr r' v) := by
  obtain ⟨F, hq, hF⟩ := h.ex
  refine (hc F hq).mono fun e w1 hp => ⟨hp.1, ⟨⟨_, hp.2.1.lt, fun k hk => ?_⟩, h.kp.trans (hp.2.2.mono fun k hk => .inr (hF k hk).1), fun k hx => Nat.lt_of_lt_of_le (h.xl k hx) hp.2.2.size⟩, hp.2.2.mono fun k hk => ⟨(hF k hk).1, (hF k hk).2.2⟩⟩
  rcases hk.1 with hk' | hk'
  · exact ⟨(hF k hk').1, hk.2, (hF k hk').2.2⟩
  · exact ⟨Nat.le_trans h.kp.size hk', hk.2, fun e => by have := h.xl k e; omega⟩
end
end Go.Proofs.Ytjbnbbblafmldaa
