/- The document's inverse (coldframeref02), searched, as a contract: what the call returns, with memory as it was. -/
import Derived.Test.YtbkelijmdpoanaaGfr
namespace Go.Proofs.Ytbkelijmdpoanaa
open Go.RowKit
set_option linter.unusedVariables false

set_option maxRecDepth 100000 in
set_option maxHeartbeats 1000000 in
theorem refinv_any (a : Nat) (w : World) (ha : a < 256) (h : 0 < a) :
    Calls Try.prog 50 #[.int .u8 a] w fun e w' => e = .returned (.int .u8 (ginv a : Int)) ∧ w = w' := by
  have hi : Hid (gmul a (ginv a) = 1) := gmul_ginv ha (by omega)
  have hl := ginv_lt a
  have h0 : 0 < ginv a := Nat.pos_of_ne_zero (ginv_ne ha (by omega))
  go_enter Try.func50, Try.ntmps50
  go_wp2_with fail
  go_loop [3] (fun i => ∃ k : Nat, k ≤ ginv a ∧ i = .int .i64 k) (fun i => 256 - (intOf i).toNat)
  case atStart => exact ⟨1, by omega, rfl⟩
  case round =>
    obtain ⟨k, hk, rfl⟩ := hrel
    by_cases hlt : k < ginv a
    · have hne : Hid (gmul a k ≠ 1) := fun e => by
        have := ginv_unique ha (by omega) e
        omega
      have hb := gmul_lt ha k
      have hne2 : ((gmul a k : Int) == 1) = false := by
        rw [beq_eq_false_iff_ne]
        have := hne.out
        omega
      go_wp2_with fail
      refine (refmul_any _ _ _ ha (by omega)).mono ?_
      rintro e w' ⟨rfl, rfl⟩
      go_wp2_with fail
      go_round
      case rel => exact ⟨k + 1, by omega, by go_num⟩
      case measure => simp [intOf]; omega
    · obtain rfl : k = ginv a := by omega
      go_wp2_with fail
      refine (refmul_any _ _ _ ha hl).mono ?_
      rintro e w' ⟨rfl, rfl⟩
      rw [hi.out]
      go_wp2_with fail
      go_ret
      exact ⟨rfl, rfl⟩
end Go.Proofs.Ytbkelijmdpoanaa
