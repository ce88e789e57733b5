/- GfField walked: it returns true for every three bytes, with memory as it was. -/
import Derived.Test.YtfkffgmpgoahpaaGfA
namespace Go.Proofs.Ytfkffgmpgoahpaa
open Go.RowKit
set_option linter.unusedVariables false

set_option maxRecDepth 100000 in
set_option maxHeartbeats 2000000 in
theorem gffield_walk (a0 a1 a2 : Int) (w0 : (Lit.int .u8 a0).wf = true) (w1 : (Lit.int .u8 a1).wf = true) (w2 : (Lit.int .u8 a2).wf = true) (w : World) :
    Calls Try.prog 6 #[.int .u8 a0, .int .u8 a1, .int .u8 a2] w fun e w' => e = .returned (.bool true) ∧ Grown w w' := by
  obtain ⟨a, rfl, ha⟩ := of_wf_u8 w0
  obtain ⟨b, rfl, hb⟩ := of_wf_u8 w1
  obtain ⟨c, rfl, hc⟩ := of_wf_u8 w2
  clear w0 w1 w2
  have hcomm := hide2 (gmul_comm hb ha)
  have hassoc := hide2 (gmul_assoc ha hb hc)
  have hxa := hide2 (Nat.xor_assoc a b c)
  have hdist := hide2 (gmul_xor_right a b c)
  have hone := hide2 (gmul_one ha)
  have hself := hide2 (Nat.xor_self a)
  go_enter Try.func6, Try.ntmps6
  go_wp2_with fail
  refine (mul_any _ _ _ ha hb).mono ?_
  rintro e w' ⟨rfl, rfl⟩
  go_wp2_with fail
  refine (mul_any _ _ _ hb ha).mono ?_
  rintro e w' ⟨rfl, rfl⟩
  rw [hcomm.out]
  go_wp2_with fail
  refine (mul_any _ _ _ ha hb).mono ?_
  rintro e w' ⟨rfl, rfl⟩
  go_wp2_with fail
  refine (mul_any _ _ _ (gmul_lt ha b) hc).mono ?_
  rintro e w' ⟨rfl, rfl⟩
  rw [hassoc.out]
  go_wp2_with fail
  refine (mul_any _ _ _ hb hc).mono ?_
  rintro e w' ⟨rfl, rfl⟩
  go_wp2_with fail
  refine (mul_any _ _ _ ha (gmul_lt hb c)).mono ?_
  rintro e w' ⟨rfl, rfl⟩
  go_wp2_with fail
  refine (add_any _ _ _ ha hb).mono ?_
  rintro e w' ⟨rfl, rfl⟩
  go_wp2_with fail
  refine (add_any _ _ _ (xor_lt ha hb) hc).mono ?_
  rintro e w' ⟨rfl, rfl⟩
  rw [hxa.out]
  go_wp2_with fail
  refine (add_any _ _ _ hb hc).mono ?_
  rintro e w' ⟨rfl, rfl⟩
  go_wp2_with fail
  refine (add_any _ _ _ ha (xor_lt hb hc)).mono ?_
  rintro e w' ⟨rfl, rfl⟩
  go_wp2_with fail
  refine (add_any _ _ _ hb hc).mono ?_
  rintro e w' ⟨rfl, rfl⟩
  go_wp2_with fail
  refine (mul_any _ _ _ ha (xor_lt hb hc)).mono ?_
  rintro e w' ⟨rfl, rfl⟩
  rw [hdist.out]
  go_wp2_with fail
  refine (mul_any _ _ _ ha hb).mono ?_
  rintro e w' ⟨rfl, rfl⟩
  go_wp2_with fail
  refine (mul_any _ _ _ ha hc).mono ?_
  rintro e w' ⟨rfl, rfl⟩
  go_wp2_with fail
  refine (add_any _ _ _ (gmul_lt ha b) (gmul_lt ha c)).mono ?_
  rintro e w' ⟨rfl, rfl⟩
  go_wp2_with fail
  refine (mul_any _ 1 _ ha (by decide)).mono ?_
  rintro e w' ⟨rfl, rfl⟩
  rw [hone.out]
  go_wp2_with fail
  refine (add_any _ _ _ ha ha).mono ?_
  rintro e w' ⟨rfl, rfl⟩
  rw [hself.out]
  go_wp2_with fail
  refine (awake_any _).mono ?_
  rintro e w' ⟨rfl, rfl⟩
  go_wp2_with fail
  go_ret
  exact ⟨rfl, Grown.refl _⟩
end Go.Proofs.Ytfkffgmpgoahpaa
