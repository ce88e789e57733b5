/- The document's logarithm (coldframeref02), searched, as a contract: what the call returns, with memory as it was. -/
import Derived.Test.YtfkffgmpgoahpaaGfr
namespace Go.Proofs.Ytfkffgmpgoahpaa
open Go.RowKit
set_option linter.unusedVariables false

set_option maxRecDepth 100000 in
set_option maxHeartbeats 1000000 in
theorem reflog_any (a : Nat) (w : World) (ha : a < 256) :
    Calls Try.prog 20 #[.int .u8 a] w fun e w' => e = .returned (.int .i64 (glogI a)) ∧ w = w' := by
  go_enter Try.func20, Try.ntmps20
  go_wp2_with fail
  go_loop [3, 4] (fun p i => ∃ k : Nat, k ≤ 255 ∧ i = .int .i64 k ∧ p = .int .u8 (gpow 2 k : Int) ∧ Hid (∀ i, i < k → gpow 2 i ≠ a)) (fun _ i => 255 - (intOf i).toNat)
  case atStart => exact ⟨0, by omega, rfl, rfl, fun i h => by omega⟩
  case round =>
    obtain ⟨k, hk, rfl, rfl, hh⟩ := hrel
    by_cases hlt : k < 255
    · by_cases he : gpow 2 k = a
      · have ht : ((gpow 2 k : Int) == (a : Int)) = true := by rw [he]; simp
        have he' := hide2 he
        clear he
        go_wp2_with fail
        go_ret
        refine ⟨ret_i64 ?_, rfl⟩
        have e1 := he'.out
        subst e1
        rw [glogI, if_neg (gpow_two_ne k), glog_gpow hlt]
      · have ht : ((gpow 2 k : Int) == (a : Int)) = false := by
          rw [beq_eq_false_iff_ne]
          omega
        have he' := hide2 he
        clear he
        have hs : Hid (gmul (gpow 2 k) 2 = gpow 2 (k + 1)) := rfl
        go_wp2_with fail
        refine (refmul_any _ 2 _ (gpow_lt k) (by decide)).mono ?_
        rintro e w' ⟨rfl, rfl⟩
        rw [hs.out]
        go_wp2_with fail
        go_round
        case rel =>
          refine ⟨k + 1, by omega, by go_num, rfl, ?_⟩
          intro i hi
          by_cases e : i = k
          · subst e
            exact he'.out
          · exact hh.out i (by omega)
        case measure => simp [intOf]; omega
    · obtain rfl : k = 255 := by omega
      go_wp2_with fail
      go_ret
      refine ⟨ret_i64 ?_, rfl⟩
      unfold glogI
      by_cases h0 : a = 0
      · rw [if_pos h0]
      · exact absurd (gpow_glog ha h0) (hh.out _ (glog_lt ha h0))
end Go.Proofs.Ytfkffgmpgoahpaa
