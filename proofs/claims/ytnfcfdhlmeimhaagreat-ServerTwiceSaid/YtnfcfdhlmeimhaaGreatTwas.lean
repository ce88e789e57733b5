/- A slice of bytes within its room that lies outside a set of blocks. No condition. -/
import Derived.Test.YtnfcfdhlmeimhaaGreatTwaj
namespace Go.Proofs.YtnfcfdhlmeimhaaGreat
open Go.RowKit
set_option linter.unusedVariables false
set_option maxRecDepth 20000
set_option linter.unusedSimpArgs false

/-- The slice v reads as bs, is within its room, and, if there are bytes, lies outside F. -/
structure BtF (w : World) (F : Nat → Prop) (v : Value) (bs : List UInt8) : Prop where
  bts : Bts w v bs
  far : bs ≠ [] → ∀ k, v.ownBlock = some k → ¬ F k ∧ k < w.heap.size
  room : ∀ A n c, v = .slice A n c → n ≤ c
section
variable {w w1 w2 : World} {F F1 S : Nat → Prop} {v : Value} {bs : List UInt8}
theorem BtF.mk_ (h : Bts w v bs) (hF : bs ≠ [] → ∀ k, v.ownBlock = some k → ¬ F k) (hr : ∀ A n c, v = .slice A n c → n ≤ c) : BtF w F v bs := by
  refine ⟨h, fun hb k hk => ⟨hF hb k hk, ?_⟩, hr⟩
  obtain ⟨A, c, rfl, hn, hc⟩ := h
  rcases A with _ | a
  · cases hk
  · have h0 := hc a rfl 0 _ (List.getElem?_eq_getElem (List.length_pos_iff.2 hb))
    have hl := World.block_lt_of_cell? w _ h0
    rw [blk_add] at hl
    have e : a.block = k := Option.some.inj hk
    omega
theorem BtF.keep (h : BtF w F v bs) (hk : Kp S w w1) (hS : ∀ k, k < w.heap.size → ¬ F k → ¬ S k) : BtF w1 F v bs := by
  by_cases hb : bs = []
  · subst hb
    obtain ⟨⟨A, c, rfl, hn, hc⟩, _, hr⟩ := h
    exact ⟨⟨A, c, rfl, hn, fun ad ha j u hu => by simp at hu⟩, fun g => absurd rfl g, hr⟩
  · refine ⟨h.1.keep hk fun k hk' => hS k (h.2 hb k hk').2 (h.2 hb k hk').1, fun _ k hk' => ⟨(h.2 hb k hk').1, ?_⟩, h.3⟩
    have := (h.2 hb k hk').2
    have := hk.size
    omega
theorem BtF.no (h : BtF w F v bs) (hk : Kp No w w1) : BtF w1 F v bs := h.keep hk fun _ _ _ f => f
theorem BtF.step (h : BtF w F v bs) (hk : Kp F w w1) (hF : ∀ k, F1 k → Up F w k) : BtF w1 F1 v bs := by
  have h1 := h.keep hk fun k _ g => g
  exact ⟨h1.1, (fun hb k hk' => ⟨fun g => by
    rcases hF k g with f | f
    · exact (h.2 hb k hk').1 f
    · have := (h.2 hb k hk').2
      omega, (h1.2 hb k hk').2⟩), h.3⟩
end
end Go.Proofs.YtnfcfdhlmeimhaaGreat
