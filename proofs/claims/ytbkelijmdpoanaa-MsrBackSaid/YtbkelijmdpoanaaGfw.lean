/- Package gf's sums and products, each as a contract: what the call returns, with memory as it was. -/
import Derived.Test.YtbkelijmdpoanaaProg
import Derived.Test.YtbkelijmdpoanaaGfm
import Derived.WalkKit
import Derived.WalkLawsBesides
import Derived.WalkSpells
import Derived.KernelRfl
import Derived.Laws.BitsAllLaws
namespace Go.Proofs.Ytbkelijmdpoanaa
open Go.RowKit
set_option linter.unusedVariables false

theorem hide2 {p : Prop} (h : p) : Hid p := h
theorem ret_i64 {a b : Int} (h : a = b) : Ending.returned (.int .i64 a) = .returned (.int .i64 b) := by rw [h]
theorem ret_u8 {a b : Int} (h : a = b) : Ending.returned (.int .u8 a) = .returned (.int .u8 b) := by rw [h]

theorem of_wf_u8 {n : Int} (h : (Lit.int .u8 n).wf = true) : ∃ a : Nat, n = (a : Int) ∧ a < 256 := by
  simp [Lit.wf, IntKind.min, IntKind.max, IntKind.signed, IntKind.bits] at h
  exact ⟨n.toNat, by omega, by omega⟩
theorem of_wf_i64 {n : Int} (h : (Lit.int .i64 n).wf = true) : -9223372036854775808 ≤ n ∧ n ≤ 9223372036854775807 := by
  simp [Lit.wf, IntKind.min, IntKind.max, IntKind.signed, IntKind.bits] at h
  exact h

theorem add_any (a b : Nat) (w : World) (ha : a < 256) (hb : b < 256) :
    Calls Try.prog 40 #[.int .u8 a, .int .u8 b] w fun e w' => e = .returned (.int .u8 ((a ^^^ b : Nat) : Int)) ∧ w = w' := by
  go_enter Try.func40, Try.ntmps40
  go_wp2
  go_ret
  exact ⟨ret_u8 (u8_xor_nat a b ha hb), rfl⟩

theorem and128 (a : Nat) (ha : a < 256) : bits .and .u8 (a : Int) 128 = ((a &&& 128 : Nat) : Int) := u8_and_nat a 128 ha (by decide)

theorem timesx_any (a : Nat) (w : World) (ha : a < 256) :
    Calls Try.prog 52 #[.int .u8 a] w fun e w' => e = .returned (.int .u8 (xt a : Int)) ∧ w = w' := by
  have hb := and128 a ha
  by_cases h : a &&& 128 = 0
  · have hx : Hid (xt a = (2 * a) % 256) := by show xt a = _; unfold xt; rw [if_pos h, Nat.xor_zero]
    have ht : (bits .and .u8 (a : Int) 128 != 0) = false := by rw [hb, h]; rfl
    clear hb h
    go_enter Try.func52, Try.ntmps52
    go_wp2_with fail
    go_ret
    exact ⟨ret_u8 (by rw [hx.out]; omega), rfl⟩
  · have hx : Hid (xt a = (2 * a) % 256 ^^^ 29) := by show xt a = _; unfold xt; rw [if_neg h]
    have ht : (bits .and .u8 (a : Int) 128 != 0) = true := by rw [hb]; simpa using h
    clear hb h
    go_enter Try.func52, Try.ntmps52
    go_wp2_with fail
    rw [show (a : Int) * 2 % 256 = ((2 * a % 256 : Nat) : Int) by omega]
    refine (add_any (2 * a % 256) 29 _ (by omega) (by decide)).mono ?_
    rintro e w' ⟨rfl, rfl⟩
    go_wp2_with fail
    go_ret
    exact ⟨ret_u8 (by rw [hx.out]), rfl⟩

theorem bit_test (b k : Nat) (hb : b < 256) : (bits .and .u8 ((b : Int) / 2 ^ k) 1 == 1) = decide (b / 2 ^ k % 2 = 1) := by
  have h := u8_and_nat (b / 2 ^ k) 1 (Nat.lt_of_le_of_lt (Nat.div_le_self _ _) hb) (by decide)
  rw [Nat.and_one_is_mod] at h
  have e : (((b / 2 ^ k : Nat)) : Int) = (b : Int) / 2 ^ k := by simp
  rw [e] at h
  rw [show (1 : Int) = ((1 : Nat) : Int) from rfl, h]
  by_cases hx : b / 2 ^ k % 2 = 1
  · rw [hx]; rfl
  · rw [show b / 2 ^ k % 2 = 0 by omega]; rfl

set_option maxHeartbeats 1000000 in
theorem mul_any (a b : Nat) (w : World) (ha : a < 256) (hb : b < 256) :
    Calls Try.prog 41 #[.int .u8 a, .int .u8 b] w fun e w' => e = .returned (.int .u8 (gmul a b : Int)) ∧ w = w' := by
  go_enter Try.func41, Try.ntmps41
  go_wp2_with fail
  go_loop [0, 5, 7] (fun x p i => ∃ k : Nat, k ≤ 8 ∧ i = .int .i64 k ∧ x = .int .u8 (xts a k : Int) ∧ p = .int .u8 (gacc a b k : Int)) (fun _ _ i => 8 - (intOf i).toNat)
  case atStart => exact ⟨0, by omega, rfl, rfl, rfl⟩
  case round =>
    obtain ⟨k, hk, rfl, rfl, rfl⟩ := hrel
    by_cases hlt : k < 8
    · have hxl := xts_lt ha k
      have hgl := gacc_lt ha b k
      have ht := bit_test b k hb
      by_cases hbit : b / 2 ^ k % 2 = 1
      · have hs : Hid (gacc a b (k + 1) = gacc a b k ^^^ xts a k) := by show gacc a b (k + 1) = _; rw [gacc, if_pos hbit]
        rw [decide_eq_true hbit] at ht
        clear hbit
        go_wp2_with fail
        refine (add_any _ _ _ hgl hxl).mono ?_
        rintro e w' ⟨rfl, rfl⟩
        go_wp2_with fail
        refine (timesx_any _ _ hxl).mono ?_
        rintro e w' ⟨rfl, rfl⟩
        go_wp2_with fail
        go_round
        case rel => exact ⟨k + 1, by omega, by go_num, rfl, by rw [hs.out]⟩
        case measure => simp [intOf]; omega
      · have hs : Hid (gacc a b (k + 1) = gacc a b k) := by show gacc a b (k + 1) = _; rw [gacc, if_neg hbit, Nat.xor_zero]
        rw [decide_eq_false hbit] at ht
        clear hbit
        go_wp2_with fail
        refine (timesx_any _ _ hxl).mono ?_
        rintro e w' ⟨rfl, rfl⟩
        go_wp2_with fail
        go_round
        case rel => exact ⟨k + 1, by omega, by go_num, rfl, by rw [hs.out]⟩
        case measure => simp [intOf]; omega
    · go_wp2_with fail
      go_ret
      exact ⟨ret_u8 (by rw [show k = 8 by omega]; rfl), rfl⟩
end Go.Proofs.Ytbkelijmdpoanaa
