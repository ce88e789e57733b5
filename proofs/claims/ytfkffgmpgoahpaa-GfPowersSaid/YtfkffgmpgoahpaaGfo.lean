/- Package gf's Order as a contract: 0 of 0, else the least exponent above 0 with which the power is 1, with memory as it was. -/
import Derived.Test.YtfkffgmpgoahpaaGfw
namespace Go.Proofs.Ytfkffgmpgoahpaa
open Go.RowKit
set_option linter.unusedVariables false

/-- The least exponent above 0 with which the power of a is 1. -/
def Least (a o : Nat) : Prop := 1 ≤ o ∧ o ≤ 255 ∧ gpow a o = 1 ∧ ∀ i, 1 ≤ i → i < o → gpow a i ≠ 1
/-- What Order comes to. -/
def OrderPost (a : Nat) (w : World) (e : Ending) (w' : World) : Prop := ∃ o : Nat, e = .returned (.int .i64 (o : Int)) ∧ Least a o ∧ w = w'

set_option maxRecDepth 100000 in
set_option maxHeartbeats 1000000 in
theorem order_zero (w : World) : Calls Try.prog 13 #[.int .u8 0] w fun e w' => e = .returned (.int .i64 0) ∧ w = w' := by
  go_enter Try.func13, Try.ntmps13
  go_wp2_with fail
  go_loop [3, 5] (fun p i => ∃ k q : Nat, k ≤ 255 ∧ q < 256 ∧ i = .int .i64 k ∧ p = .int .u8 q) (fun _ i => 255 - (intOf i).toNat)
  case atStart => exact ⟨0, 1, by omega, by omega, rfl, rfl⟩
  case round =>
    obtain ⟨k, q, hk, hq, rfl, rfl⟩ := hrel
    by_cases hlt : k < 255
    · go_wp2_with fail
      refine (mul_any _ 0 _ hq (by decide)).mono ?_
      rintro e w' ⟨rfl, rfl⟩
      rw [gmul_zero]
      go_wp2_with fail
      go_round
      case rel => exact ⟨k + 1, 0, by omega, by omega, by go_num, rfl⟩
      case measure => simp [intOf]; omega
    · go_wp2_with fail
      go_ret
      exact ⟨rfl, rfl⟩

set_option maxRecDepth 100000 in
set_option maxHeartbeats 1000000 in
theorem order_any (a : Nat) (w : World) (ha : a < 256) (h : 0 < a) : Calls Try.prog 13 #[.int .u8 a] w (OrderPost a w) := by
  have h255 : Hid (gpow a 255 = 1) := gpow_255 ha (by omega)
  go_enter Try.func13, Try.ntmps13
  go_wp2_with fail
  go_loop [3, 5] (fun p i => ∃ k : Nat, k ≤ 254 ∧ i = .int .i64 k ∧ p = .int .u8 (gpow a k : Int) ∧ Hid (∀ i, 1 ≤ i → i ≤ k → gpow a i ≠ 1)) (fun _ i => 255 - (intOf i).toNat)
  case atStart => exact ⟨0, by omega, rfl, rfl, fun i h1 h2 => by omega⟩
  case round =>
    obtain ⟨k, hk, rfl, rfl, hh⟩ := hrel
    have hs : Hid (gmul (gpow a k) a = gpow a (k + 1)) := rfl
    go_wp2_with fail
    refine (mul_any _ _ _ (gpow_lt k) ha).mono ?_
    rintro e w' ⟨rfl, rfl⟩
    rw [hs.out]
    have hl : gpow a (k + 1) < 256 := gpow_lt (k + 1)
    by_cases h1 : gpow a (k + 1) = 1
    · rw [h1]
      have h1' := hide2 h1
      clear h1 hl
      go_wp2_with fail
      go_ret
      refine ⟨k + 1, ret_i64 (by omega), ⟨by omega, by omega, h1'.out, fun i hi1 hi2 => hh.out i hi1 (by omega)⟩, rfl⟩
    · have hne : ((gpow a (k + 1) : Int) == 1) = false := by
        rw [beq_eq_false_iff_ne]
        omega
      have h1' := hide2 h1
      clear h1
      have hk' : k + 1 ≤ 254 := by
        have : k + 1 ≠ 255 := fun e => by
          have h2 := h255.out
          rw [← e] at h2
          exact h1'.out h2
        omega
      go_wp2_with fail
      go_round
      case rel =>
        refine ⟨k + 1, hk', by go_num, rfl, ?_⟩
        intro i hi1 hi2
        by_cases e : i = k + 1
        · subst e
          exact h1'.out
        · exact hh.out i hi1 (by omega)
      case measure => simp [intOf]; omega
end Go.Proofs.Ytfkffgmpgoahpaa
