/- A purse of package purse in memory; its sums and products, and each of its calls as a contract. No condition. -/
import Derived.Test.YtjjdkkncdnipcaaPum
import Derived.Test.YtjjdkkncdnipcaaBase
import Derived.Deep.QuietTactic
import Derived.BigQuiet
import Derived.Laws.Externs
import Derived.Lib.Mul64
import Derived.Laws.Bits64b
namespace Go.Proofs.Ytjjdkkncdnipcaa
open Go.RowKit
set_option linter.unusedVariables false
set_option maxRecDepth 20000
set_option linter.unusedSimpArgs false

theorem add64_lo (a b : Nat) (h : a + b ≤ 18446744073709551615) (w : World) : (callFunc 24 #[.int .u64 (a : Int), .int .u64 (b : Int), .int .u64 0]).run Try.prog w = .ok (.value (.tuple #[.int .u64 ((a + b : Nat) : Int), .int .u64 0])) w := by
  rw [run_callFunc_extern Try.func24 (by kernel_rfl) (by kernel_rfl) (by kernel_rfl) (e := add64Entry) (by kernel_rfl), run_add64 a b 0 (by omega) (by omega) (by omega) (by omega)]
  have e1 : ((a : Int) + (b : Int) + 0) % 18446744073709551616 = ((a + b : Nat) : Int) := by omega
  have e2 : ((a : Int) + (b : Int) + 0) / 18446744073709551616 = 0 := by omega
  rw [e1, e2]
  rfl
theorem add64_hi (a b : Nat) (ha : a ≤ 18446744073709551615) (hb : b ≤ 18446744073709551615) (h : ¬ a + b ≤ 18446744073709551615) (w : World) : (callFunc 24 #[.int .u64 (a : Int), .int .u64 (b : Int), .int .u64 0]).run Try.prog w = .ok (.value (.tuple #[.int .u64 ((a + b - 18446744073709551616 : Nat) : Int), .int .u64 1])) w := by
  rw [run_callFunc_extern Try.func24 (by kernel_rfl) (by kernel_rfl) (by kernel_rfl) (e := add64Entry) (by kernel_rfl), run_add64 a b 0 (by omega) (by omega) (by omega) (by omega)]
  have e1 : ((a : Int) + (b : Int) + 0) % 18446744073709551616 = ((a + b - 18446744073709551616 : Nat) : Int) := by omega
  have e2 : ((a : Int) + (b : Int) + 0) / 18446744073709551616 = 1 := by omega
  rw [e1, e2]
  rfl
/-- What a call that makes no memory and returns a number comes to. -/
def NumPost (w : World) (n : Nat) (e : Ending) (w1 : World) : Prop := e = .returned (.int .u64 (n : Int)) ∧ w = w1
theorem sum_any (w : World) (a b : Nat) (ha : a ≤ 18446744073709551615) (hb : b ≤ 18446744073709551615) : Calls Try.prog 19 #[.int .u64 (a : Int), .int .u64 (b : Int)] w (NumPost w (cutN (a + b))) := by
  by_cases h : a + b ≤ 18446744073709551615
  · rw [cutN_in h]
    have hc := add64_lo a b h w
    clear h
    go_enter Try.func19, Try.ntmps19
    go_wp2_with (simp only [hc])
    go_ret
    exact ⟨rfl, rfl⟩
  · rw [cutN_out h]
    have hc := add64_hi a b ha hb h w
    clear h
    go_enter Try.func19, Try.ntmps19
    go_wp2_with (simp only [hc])
    go_ret
    exact ⟨rfl, rfl⟩

theorem mk64 (a : Nat) (ha : a < 18446744073709551616) : bits .and .u64 (a : Int) 4294967295 = ((a % 4294967296 : Nat) : Int) := by
  have h := bits_and_u64_nat a 4294967295 ha (by omega)
  rw [show a &&& 4294967295 = a % 4294967296 from Nat.and_two_pow_sub_one_eq_mod a 32] at h
  exact h
theorem up_div32 (a : Nat) : (a : Int) / 4294967296 = ((a / 4294967296 : Nat) : Int) := by omega
theorem up_mul64 (a b : Nat) : (a : Int) * (b : Int) = ((a * b : Nat) : Int) := (Int.natCast_mul a b).symm
theorem up_add64 (a b : Nat) : (a : Int) + (b : Int) = ((a + b : Nat) : Int) := (Int.natCast_add a b).symm
theorem wr64_in (a : Nat) (ha : a < 18446744073709551616) : IntKind.u64.wrap (a : Int) = (a : Int) := by rw [IntKind.wrap_u64]; omega
theorem wr64_mod (a : Nat) : IntKind.u64.wrap (a : Int) = ((a % 18446744073709551616 : Nat) : Int) := by rw [IntKind.wrap_u64]; omega
set_option maxHeartbeats 1000000 in
theorem mul64_any (w : World) (x y : Nat) (hx : x < 18446744073709551616) (hy : y < 18446744073709551616) : Calls Try.prog 25 #[.int .u64 (x : Int), .int .u64 (y : Int)] w fun e w1 => e = .returned (.tuple #[.int .u64 ((x * y / 18446744073709551616 : Nat) : Int), .int .u64 ((x * y % 18446744073709551616 : Nat) : Int)]) ∧ w = w1 := by
  obtain ⟨bd, bt, bw, hhi⟩ := Lib.mul64_hi x y hx hy
  have la := Lib.half_mul_le (a := x / 4294967296) (b := y / 4294967296) (by omega) (by omega)
  have lb := Lib.half_mul_le (a := x / 4294967296) (b := y % 4294967296) (by omega) (by omega)
  have lc := Lib.half_mul_le (a := x % 4294967296) (b := y / 4294967296) (by omega) (by omega)
  have sa : x / 4294967296 * (y / 4294967296) < 18446744073709551616 := by omega
  have sb : x / 4294967296 * (y % 4294967296) < 18446744073709551616 := by omega
  have sc : x % 4294967296 * (y / 4294967296) < 18446744073709551616 := by omega
  have s1 : x / 4294967296 * (y / 4294967296) + (x / 4294967296 * (y % 4294967296) + x % 4294967296 * (y % 4294967296) / 4294967296) / 4294967296 < 18446744073709551616 := by omega
  have s2 : x / 4294967296 * (y / 4294967296) + (x / 4294967296 * (y % 4294967296) + x % 4294967296 * (y % 4294967296) / 4294967296) / 4294967296 + ((x / 4294967296 * (y % 4294967296) + x % 4294967296 * (y % 4294967296) / 4294967296) % 4294967296 + x % 4294967296 * (y / 4294967296)) / 4294967296 < 18446744073709551616 := by omega
  go_enter Try.func25, Try.ntmps25
  go_wp2
  simp only [mk64 x hx, mk64 y hy, up_div32, up_mul64, up_add64, wr64_in _ bd, wr64_in _ sb, wr64_in _ bt, mk64 _ bt, wr64_in _ sc, wr64_in _ bw, wr64_in _ sa, wr64_in _ s1, wr64_in _ s2, wr64_mod (x * y)]
  rw [hhi]
  go_ret2
  exact ⟨rfl, rfl⟩
theorem product_any (w : World) (a b : Nat) (ha : a ≤ 18446744073709551615) (hb : b ≤ 18446744073709551615) : Calls Try.prog 20 #[.int .u64 (a : Int), .int .u64 (b : Int)] w (NumPost w (cutN (a * b))) := by
  have hc := hide (mul64_any w a b (by omega) (by omega))
  by_cases h : a * b ≤ 18446744073709551615
  · rw [cutN_in h]
    rw [Nat.div_eq_of_lt (by omega), Nat.mod_eq_of_lt (by omega)] at hc
    clear h
    go_enter Try.func20, Try.ntmps20
    go_wp2_with fail
    refine hc.out.mono ?_
    rintro e w1 ⟨rfl, rfl⟩
    go_wp2_with fail
    go_ret
    exact ⟨rfl, rfl⟩
  · rw [cutN_out h]
    have hq : 1 ≤ a * b / 18446744073709551616 := by omega
    generalize a * b / 18446744073709551616 = q at hc hq
    generalize a * b % 18446744073709551616 = r at hc
    clear h
    go_enter Try.func20, Try.ntmps20
    go_wp2_with fail
    refine hc.out.mono ?_
    rintro e w1 ⟨rfl, rfl⟩
    go_wp2_with fail
    go_ret
    exact ⟨rfl, rfl⟩
end Go.Proofs.Ytjjdkkncdnipcaa
