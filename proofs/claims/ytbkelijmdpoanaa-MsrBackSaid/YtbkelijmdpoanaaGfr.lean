/- The document's product (coldframeref02) as a contract: it returns the same as the field's product, with memory as it was. -/
import Derived.Test.YtbkelijmdpoanaaGfw
namespace Go.Proofs.Ytbkelijmdpoanaa
open Go.RowKit
set_option linter.unusedVariables false

/-- A bit of a number. -/
def bitN (n i : Nat) : Nat := n / 2 ^ i % 2
theorem refbit_any (n i : Nat) (w : World) (hn : n < 65536) (hi : i ≤ 100) :
    Calls Try.prog 59 #[.int .i64 n, .int .i64 i] w fun e w' => e = .returned (.int .i64 (bitN n i : Int)) ∧ w = w' := by
  go_enter Try.func59, Try.ntmps59
  go_wp2_with fail
  go_loop [0, 1] (fun x y => ∃ k m : Nat, k ≤ i ∧ m < 65536 ∧ y = .int .i64 k ∧ x = .int .i64 m ∧ Hid (m / 2 ^ k = n / 2 ^ i)) (fun _ y => (intOf y).toNat)
  case atStart => exact ⟨i, n, Nat.le_refl _, hn, rfl, rfl, (rfl : n / 2 ^ i = n / 2 ^ i)⟩
  case round =>
    obtain ⟨k, m, hk, hm, rfl, rfl, hh⟩ := hrel
    by_cases hlt : 0 < k
    · go_wp2_with fail
      go_round
      case rel =>
        refine ⟨k - 1, m / 2, by omega, by omega, by go_num, by go_num, ?_⟩
        show m / 2 / 2 ^ (k - 1) = n / 2 ^ i
        rw [← hh.out, Nat.div_div_eq_div_mul, ← Nat.pow_succ', show (k - 1).succ = k by omega]
      case measure => simp [intOf]; omega
    · go_wp2_with fail
      go_ret
      have h0 : k = 0 := by omega
      subst h0
      have hm2 := hh.out
      simp only [Nat.pow_zero, Nat.div_one] at hm2
      exact ⟨ret_i64 (by unfold bitN; rw [← hm2]; omega), rfl⟩

/-- 2 to some. -/
def pw2 (i : Nat) : Nat := 2 ^ i
theorem pw2_le {i k : Nat} (h : i ≤ k) : pw2 i ≤ pw2 k := Nat.pow_le_pow_right (by decide) h
theorem refpower_any (i : Nat) (w : World) (hi : i ≤ 40) :
    Calls Try.prog 60 #[.int .i64 i] w fun e w' => e = .returned (.int .i64 (pw2 i : Int)) ∧ w = w' := by
  go_enter Try.func60, Try.ntmps60
  go_wp2_with fail
  go_loop [0, 3] (fun y p => ∃ k m : Nat, k ≤ i ∧ m ≤ 1099511627776 ∧ y = .int .i64 k ∧ p = .int .i64 m ∧ Hid (m = pw2 (i - k))) (fun y _ => (intOf y).toNat)
  case atStart => exact ⟨i, 1, Nat.le_refl _, by omega, rfl, rfl, (by rw [Nat.sub_self]; rfl : 1 = pw2 (i - i))⟩
  case round =>
    obtain ⟨k, m, hk, hm, rfl, rfl, hh⟩ := hrel
    by_cases hlt : 0 < k
    · have hs : Hid (m * 2 = pw2 (i - (k - 1))) := by
        show m * 2 = 2 ^ (i - (k - 1))
        rw [hh.out, pw2, ← Nat.pow_succ]
        congr 1
        omega
      have hm2 : m * 2 ≤ 1099511627776 := by
        rw [hs.out]
        exact pw2_le (k := 40) (by omega)
      go_wp2_with fail
      go_round
      case rel => exact ⟨k - 1, m * 2, by omega, hm2, by go_num, by go_num, hs⟩
      case measure => simp [intOf]; omega
    · go_wp2_with fail
      go_ret
      have h0 : k = 0 := by omega
      subst h0
      have := hh.out
      rw [Nat.sub_zero] at this
      exact ⟨ret_i64 (by rw [← this]), rfl⟩

theorem xor_i64 (a b : Nat) (ha : a < 32768) (hb : b < 32768) : bits .xor .i64 (a : Int) (b : Int) = ((a ^^^ b : Nat) : Int) := by
  have hx : a ^^^ b < 2 ^ 15 := Nat.xor_lt_two_pow (by omega) (by omega)
  show IntKind.i64.wrap ((BitVec.ofInt 64 (a : Int) ^^^ BitVec.ofInt 64 (b : Int)).toNat : Int) = _
  rw [BitVec.toNat_xor, ofInt_u64 a (by omega), ofInt_u64 b (by omega), IntKind.wrap_i64]
  omega
theorem racc_le {a : Nat} (ha : a < 256) (b k : Nat) (hk : k ≤ 8) : racc a b k < 32768 := racc_lt ha b k hk
theorem rdown_le {p : Nat} (hp : p < 32768) (k : Nat) (hk : k ≤ 7) : rdown p k < 32768 := rdown_lt hp k hk

set_option maxHeartbeats 1000000 in
theorem refmul_any (a b : Nat) (w : World) (ha : a < 256) (hb : b < 256) :
    Calls Try.prog 48 #[.int .u8 a, .int .u8 b] w fun e w' => e = .returned (.int .u8 (gmul a b : Int)) ∧ w = w' := by
  have hfin : Hid (rdown (racc a b 8) 7 % 256 = gmul a b) := rmul_eq ha hb
  have hr8 := racc_le ha b 8 (by decide)
  go_enter Try.func48, Try.ntmps48
  go_wp2_with fail
  go_loop [5, 6] (fun p i => ∃ k : Nat, k ≤ 8 ∧ i = .int .i64 k ∧ p = .int .i64 (racc a b k : Int)) (fun _ i => 8 - (intOf i).toNat)
  case atStart => exact ⟨0, by omega, rfl, rfl⟩
  case round =>
    obtain ⟨k, hk, rfl, rfl⟩ := hrel
    by_cases hlt : k < 8
    · have hra := racc_le ha b k hk
      by_cases hbit : b / 2 ^ k % 2 = 1
      · have hs : Hid (racc a b (k + 1) = racc a b k ^^^ a * pw2 k) := by show racc a b (k + 1) = _; rw [racc, if_pos hbit]; rfl
        have hp : pw2 k ≤ 128 := pw2_le (k := 7) (by omega)
        have hmp : a * pw2 k ≤ 255 * 128 := Nat.mul_le_mul (by omega) hp
        have hB : Hid (bitN b k = 1) := hbit
        clear hbit
        go_wp2_with fail
        refine (refbit_any _ _ _ (by omega) (by omega)).mono ?_
        rintro e w' ⟨rfl, rfl⟩
        rw [hB.out]
        go_wp2_with fail
        refine (refpower_any _ _ (by omega)).mono ?_
        rintro e w' ⟨rfl, rfl⟩
        go_wp2_with fail
        go_round
        case rel => exact ⟨k + 1, by omega, by go_num, by rw [hs.out, ← xor_i64 _ _ hra (by omega), Int.natCast_mul]⟩
        case measure => simp [intOf]; omega
      · have hs : Hid (racc a b (k + 1) = racc a b k) := by show racc a b (k + 1) = _; rw [racc, if_neg hbit, Nat.xor_zero]
        have hB : Hid (bitN b k = 0) := by show bitN b k = 0; unfold bitN; omega
        clear hbit
        go_wp2_with fail
        refine (refbit_any _ _ _ (by omega) (by omega)).mono ?_
        rintro e w' ⟨rfl, rfl⟩
        rw [hB.out]
        go_wp2_with fail
        go_round
        case rel => exact ⟨k + 1, by omega, by go_num, by rw [hs.out]⟩
        case measure => simp [intOf]; omega
    · obtain rfl : k = 8 := by omega
      go_wp2_with fail
      go_loop [5, 7] (fun p i => ∃ j : Nat, j ≤ 7 ∧ i = .int .i64 ((14 - j : Nat) : Int) ∧ p = .int .i64 (rdown (racc a b 8) j : Int)) (fun _ i => (intOf i).toNat)
      case atStart => exact ⟨0, by omega, rfl, rfl⟩
      case round =>
        obtain ⟨j, hj, rfl, rfl⟩ := hrel
        by_cases hlj : j < 7
        · have hra := rdown_le hr8 j hj
          have h14 : (14 - j : Nat) ≥ 8 := by omega
          have h14b : (14 - j : Nat) ≤ 14 := by omega
          have hnx : Hid (14 - (j + 1) = 14 - j - 1) := by show 14 - (j + 1) = 14 - j - 1; omega
          by_cases hbit : rdown (racc a b 8) j / 2 ^ (14 - j) % 2 = 1
          · have hs : Hid (rdown (racc a b 8) (j + 1) = rdown (racc a b 8) j ^^^ 285 * pw2 (14 - j - 8)) := by show rdown (racc a b 8) (j + 1) = _; rw [rdown, if_pos hbit]; rfl
            have hB : Hid (bitN (rdown (racc a b 8) j) (14 - j) = 1) := hbit
            clear hbit
            generalize rdown (racc a b 8) j = p at hra hs hB ⊢
            generalize hi : 14 - j = i at h14 h14b hnx hs hB ⊢
            have hi' := hide2 hi
            clear hi
            have hp : pw2 (i - 8) ≤ 64 := pw2_le (k := 6) (by omega)
            go_wp2_with fail
            refine (refbit_any _ _ _ (by omega) (by omega)).mono ?_
            rintro e w' ⟨rfl, rfl⟩
            rw [hB.out]
            go_wp2_with fail
            rw [show (i : Int) - 8 = ((i - 8 : Nat) : Int) by omega]
            refine (refpower_any _ _ (by omega)).mono ?_
            rintro e w' ⟨rfl, rfl⟩
            go_wp2_with fail
            go_round
            case rel => exact ⟨j + 1, by omega, by rw [hnx.out]; go_num, by rw [hs.out, ← xor_i64 _ _ hra (by omega), Int.natCast_mul]; rfl⟩
            case measure => simp [intOf]; omega
          · have hs : Hid (rdown (racc a b 8) (j + 1) = rdown (racc a b 8) j) := by show rdown (racc a b 8) (j + 1) = _; rw [rdown, if_neg hbit, Nat.xor_zero]
            have hB : Hid (bitN (rdown (racc a b 8) j) (14 - j) = 0) := by show bitN (rdown (racc a b 8) j) (14 - j) = 0; unfold bitN; omega
            clear hbit
            generalize rdown (racc a b 8) j = p at hra hs hB ⊢
            generalize hi : 14 - j = i at h14 h14b hnx hs hB ⊢
            have hi' := hide2 hi
            clear hi
            go_wp2_with fail
            refine (refbit_any _ _ _ (by omega) (by omega)).mono ?_
            rintro e w' ⟨rfl, rfl⟩
            rw [hB.out]
            go_wp2_with fail
            go_round
            case rel => exact ⟨j + 1, by omega, by rw [hnx.out]; go_num, by rw [hs.out]⟩
            case measure => simp [intOf]; omega
        · obtain rfl : j = 7 := by omega
          have hra := rdown_le hr8 7 (by decide)
          go_wp2_with fail
          go_ret
          exact ⟨ret_u8 (by rw [← hfin.out]; omega), rfl⟩
end Go.Proofs.Ytbkelijmdpoanaa
