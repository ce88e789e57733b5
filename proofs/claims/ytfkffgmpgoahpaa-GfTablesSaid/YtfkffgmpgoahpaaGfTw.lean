/- GfTables walked: it returns true for every two bytes and every exponent; what lay in memory lies there as it was. -/
import Derived.Test.YtfkffgmpgoahpaaGfA
import Derived.Test.YtfkffgmpgoahpaaGft
import Derived.Test.YtfkffgmpgoahpaaGfq
import Derived.Test.YtfkffgmpgoahpaaGfl
namespace Go.Proofs.Ytfkffgmpgoahpaa
open Go.RowKit
set_option linter.unusedVariables false

theorem law_k (n : Int) : n.tmod 255 % 255 = n % 255 := by
  by_cases h : n < 0
  · have := tmod_neg h
    omega
  · have : n.tmod 255 = n % 255 := Int.tmod_eq_emod_of_nonneg (by omega)
    omega
set_option maxRecDepth 100000 in
set_option maxHeartbeats 2000000 in
theorem gftables_walk (a0 a1 a2 : Int) (w0 : (Lit.int .u8 a0).wf = true) (w1 : (Lit.int .u8 a1).wf = true) (w2 : (Lit.int .i64 a2).wf = true) (w : World) :
    Calls Try.prog 5 #[.int .u8 a0, .int .u8 a1, .int .i64 a2] w fun e w' => e = .returned (.bool true) ∧ Below w.heap.size w w' := by
  obtain ⟨a, rfl, ha⟩ := of_wf_u8 w0
  obtain ⟨b, rfl, hb⟩ := of_wf_u8 w1
  obtain ⟨hn1, hn2⟩ := of_wf_i64 w2
  clear w0 w1 w2
  obtain ⟨m, hm, hm2⟩ : ∃ m : Nat, Hid (a2 % 255 = (m : Int)) ∧ m < 255 := ⟨(a2 % 255).toNat, by show a2 % 255 = _; omega, by omega⟩
  have hk : Hid (a2.tmod 255 % 255 = (m : Int)) := (law_k a2).trans hm.out
  have ht1 : -255 < a2.tmod 255 := Int.lt_tmod_of_pos a2 (by decide)
  have ht2 : a2.tmod 255 < 255 := Int.tmod_lt_of_pos a2 (by decide)
  go_enter Try.func5, Try.ntmps5
  go_wp2_with fail
  refine (make_any _).mono ?_
  rintro e w1 ⟨rfl, ht, hbl⟩
  go_wp2_with fail
  refine (exp_any _ _ _ ht hn1 hn2).mono ?_
  rintro e w' ⟨rfl, rfl⟩
  rw [hm.out, Int.toNat_natCast]
  go_wp2_with fail
  rw [hk.out]
  refine (refpow_any 2 _ _ (by decide) (by omega)).mono ?_
  rintro e w' ⟨rfl, rfl⟩
  go_wp2_with fail
  refine (log_any _ _ _ ht ha).mono ?_
  rintro e w' ⟨rfl, rfl⟩
  go_wp2_with fail
  refine (reflog_any _ _ ha).mono ?_
  rintro e w' ⟨rfl, rfl⟩
  go_wp2_with fail
  refine (tmul_any _ _ _ _ ht ha hb).mono ?_
  rintro e w' ⟨rfl, rfl⟩
  go_wp2_with fail
  refine (refmul_any _ _ _ ha hb).mono ?_
  rintro e w' ⟨rfl, rfl⟩
  go_wp2_with fail
  refine (exp_nil _ _).mono ?_
  rintro e w' ⟨rfl, rfl⟩
  go_wp2_with fail
  refine (log_nil 1 _).mono ?_
  rintro e w' ⟨rfl, rfl⟩
  go_wp2_with fail
  refine (tmul_nil _).mono ?_
  rintro e w' ⟨rfl, rfl⟩
  go_wp2_with fail
  refine (awake_any _).mono ?_
  rintro e w' ⟨rfl, rfl⟩
  go_wp2_with fail
  go_ret
  exact ⟨rfl, hbl⟩
end Go.Proofs.Ytfkffgmpgoahpaa
