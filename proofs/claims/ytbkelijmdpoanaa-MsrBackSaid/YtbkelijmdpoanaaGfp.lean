/- Package gf's powers, inverses and quotients, each as a contract: what the call returns, with memory as it was. -/
import Derived.Test.YtbkelijmdpoanaaGfw
namespace Go.Proofs.Ytbkelijmdpoanaa
open Go.RowKit
set_option linter.unusedVariables false

theorem and1_i64 (n : Int) : bits .and .i64 n 1 = n % 2 := by
  have h1 : (BitVec.ofInt 64 1).toNat = 2 ^ 1 - 1 := by decide
  have key : (BitVec.ofInt 64 n &&& BitVec.ofInt 64 1).toNat = (n % ((2 ^ 64 : Nat) : Int)).toNat % 2 ^ 1 := by
    rw [BitVec.toNat_and, BitVec.toNat_ofInt, h1, Nat.and_two_pow_sub_one_eq_mod]
  show IntKind.i64.wrap ((BitVec.ofInt 64 n &&& BitVec.ofInt 64 1).toNat : Nat) = n % 2
  rw [key, IntKind.wrap_i64]
  omega

theorem pow_even {x p m : Nat} (hx : x < 256) (h : m % 2 = 0) : gmul p (gpow (gmul x x) (m / 2)) = gmul p (gpow x m) := by
  rw [gpow_sq hx, show 2 * (m / 2) = m by omega]
theorem pow_odd {x p m : Nat} (hx : x < 256) (hp : p < 256) (h : m % 2 = 1) : gmul (gmul p x) (gpow (gmul x x) (m / 2)) = gmul p (gpow x m) := by
  rw [gpow_sq hx, gmul_assoc hp hx (gpow_lt _)]
  congr 1
  have : gpow x m = gpow x (1 + 2 * (m / 2)) := by congr 1; omega
  rw [this, gpow_add hx, gpow_one hx]

set_option maxHeartbeats 1000000 in
theorem pow_any (a : Nat) (n : Int) (w : World) (ha : a < 256) (h1 : -9223372036854775808 ≤ n) (h2 : n ≤ 9223372036854775807) :
    Calls Try.prog 39 #[.int .u8 a, .int .i64 n] w fun e w' => e = .returned (.int .u8 (gpow a n.toNat : Int)) ∧ w = w' := by
  go_enter Try.func39, Try.ntmps39
  go_wp2_with fail
  go_loop [0, 1, 5] (fun x y z => ∃ (x' p : Nat) (m : Int), x' < 256 ∧ p < 256 ∧ -9223372036854775808 ≤ m ∧ m ≤ 9223372036854775807 ∧ x = .int .u8 x' ∧ y = .int .i64 m ∧ z = .int .u8 p ∧ Hid (gmul p (gpow x' m.toNat) = gpow a n.toNat)) (fun _ y _ => (intOf y).toNat)
  case atStart => exact ⟨a, 1, n, ha, by decide, h1, h2, rfl, rfl, rfl, one_gmul (gpow_lt _)⟩
  case round =>
    obtain ⟨x, p, m, hx, hp, hm1, hm2, rfl, rfl, rfl, hh⟩ := hrel
    by_cases hlt : 0 < m
    · have ht := and1_i64 m
      by_cases hodd : m % 2 = 1
      · rw [hodd] at ht
        have hs : Hid (gmul (gmul p x) (gpow (gmul x x) (m / 2).toNat) = gpow a n.toNat) := by
          show gmul (gmul p x) (gpow (gmul x x) (m / 2).toNat) = gpow a n.toNat
          rw [show (m / 2).toNat = m.toNat / 2 by omega, pow_odd hx hp (by omega), hh.out]
        clear hodd
        go_wp2_with fail
        refine (mul_any _ _ _ hp hx).mono ?_
        rintro e w' ⟨rfl, rfl⟩
        go_wp2_with fail
        refine (mul_any _ _ _ hx hx).mono ?_
        rintro e w' ⟨rfl, rfl⟩
        go_wp2_with fail
        go_round
        case rel => exact ⟨gmul x x, gmul p x, m / 2, gmul_lt hx _, gmul_lt hp _, by omega, by omega, rfl, rfl, rfl, hs⟩
        case measure => simp [intOf]; omega
      · rw [show m % 2 = 0 by omega] at ht
        have hs : Hid (gmul p (gpow (gmul x x) (m / 2).toNat) = gpow a n.toNat) := by
          show gmul p (gpow (gmul x x) (m / 2).toNat) = gpow a n.toNat
          rw [show (m / 2).toNat = m.toNat / 2 by omega, pow_even hx (by omega), hh.out]
        clear hodd
        go_wp2_with fail
        refine (mul_any _ _ _ hx hx).mono ?_
        rintro e w' ⟨rfl, rfl⟩
        go_wp2_with fail
        go_round
        case rel => exact ⟨gmul x x, p, m / 2, gmul_lt hx _, hp, by omega, by omega, rfl, rfl, rfl, hs⟩
        case measure => simp [intOf]; omega
    · go_wp2_with fail
      go_ret
      have h0 : m.toNat = 0 := by omega
      have := hh.out
      rw [h0, show gpow x 0 = 1 from rfl, gmul_one hp] at this
      exact ⟨ret_u8 (by rw [this]), rfl⟩

theorem inv_zero (w : World) : Calls Try.prog 68 #[.int .u8 0] w fun e w' => e = .returned (.tuple #[.int .u8 0, .int .i64 1]) ∧ w = w' := by
  go_enter Try.func68, Try.ntmps68
  go_wp2_with fail
  go_ret2
  exact ⟨rfl, rfl⟩
theorem inv_any (a : Nat) (w : World) (ha : a < 256) (h : 0 < a) : Calls Try.prog 68 #[.int .u8 a] w fun e w' => e = .returned (.tuple #[.int .u8 (ginv a : Int), .int .i64 0]) ∧ w = w' := by
  go_enter Try.func68, Try.ntmps68
  go_wp2_with fail
  refine (pow_any a 254 _ ha (by decide) (by decide)).mono ?_
  rintro e w' ⟨rfl, rfl⟩
  go_wp2_with fail
  go_ret2
  exact ⟨rfl, rfl⟩
end Go.Proofs.Ytbkelijmdpoanaa
