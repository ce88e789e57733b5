/- The document's Parse of layer 15, as a contract over memory (printed by tools/gen_wig.py). -/
import Derived.Test.YtnfcfdhlmeimhaaGreatTwbi
import Derived.Deep.DeepCutAuto
namespace Go.Proofs.YtnfcfdhlmeimhaaGreat
open Go.RowKit
set_option linter.unusedVariables false
set_option linter.unusedSimpArgs false
set_option maxRecDepth 20000

section
variable {t : TypeId} {w w1 : World} {b g : Nat} {xs : Array Value} {u v : Value} {bs : List UInt8}
/-- Bytes do not lie in a block without bytes. -/
theorem bts_off (h : w.heap[b]? = some (.cells xs t (0, 0))) (hx : ∀ (j : Nat) (z : Int), xs[j]? ≠ some (.int .u8 z)) (hb : Bts w u bs) (hne : bs ≠ []) : u.ownBlock ≠ some b := fun e => by
  obtain ⟨A', c', rfl, hn, hc⟩ := hb
  rcases A' with _ | ad
  · cases e
  · have h0 := hc ad rfl 0 _ (List.getElem?_eq_getElem (List.length_pos_iff.2 hne))
    obtain ⟨B, off, sp⟩ := ad
    have eB : B = b := Option.some.inj e
    subst eB
    have hs : sp = none := by simpa [Addr.add] using World.cell?_spot h0
    subst hs
    rw [add_none, cell_of_row w B _ _ _ _ h] at h0
    exact hx _ _ h0
theorem bts_stay (h : w.heap[b]? = some (.cells xs t (0, 0))) (hx : ∀ (j : Nat) (z : Int), xs[j]? ≠ some (.int .u8 z)) (hb : Bts w u bs) (hk : Kp (fun k => k = b) w w1) : Bts w1 u bs := by
  by_cases e : bs = []
  · subst e
    obtain ⟨A', c', rfl, hn, hc⟩ := hb
    exact ⟨A', c', rfl, hn, fun ad ha j u hu => by simp at hu⟩
  · exact hb.keep hk fun k hk' e' => bts_off h hx hb e (by rw [hk', e'])
end
end Go.Proofs.YtnfcfdhlmeimhaaGreat
