/- Package seal's Sum and Go and the document's Sum, each as a contract over memory. -/
import Derived.Test.YtikegnhjnbjclaaCl
import Derived.Test.YtikegnhjnbjclaaCrm
import Derived.IntWalk
import Derived.Laws.BitsAllLaws
namespace Go.Proofs.Ytikegnhjnbjclaa
open Go.RowKit
set_option linter.unusedVariables false
set_option maxRecDepth 20000
set_option linter.unusedSimpArgs false

/-- The sum of any bytes whose sum is s, and bs behind them. -/
def goS (s : Nat) (bs : List UInt8) : Nat := c1s - cbs (c1s - s) bs
theorem goS_lt (s : Nat) (bs : List UInt8) : goS s bs < 4294967296 := by unfold goS c1s; omega
theorem goS_zero (bs : List UInt8) : goS 0 bs = crc bs := rfl
theorem goS_crc (a b : List UInt8) : goS (crc a) b = crc (a ++ b) := crc_go a b

/-- One bit, as the program reckons. -/
theorem bit_step (x : Nat) (h : x < 4294967296) : bits .xor .u32 ((x : Int) / 2) (bits .and .u32 (-(bits .and .u32 (x : Int) 1) % 4294967296) 2197175160) = ((cb x : Nat) : Int) := by
  have e1 : bits .and .u32 (x : Int) 1 = ((x % 2 : Nat) : Int) := by
    have := u32_and_nat x 1 h (by omega)
    rw [Nat.and_one_is_mod] at this
    exact this
  have e2 : ((x : Int) / 2) = ((x / 2 : Nat) : Int) := by omega
  rw [e1, e2]
  rcases (by omega : x % 2 = 0 ∨ x % 2 = 1) with g | g
  · have e3 : bits .and .u32 (-((x % 2 : Nat) : Int) % 4294967296) 2197175160 = ((0 : Nat) : Int) := by
      rw [g]; exact u32_and_nat 0 2197175160 (by omega) (by omega)
    rw [e3, u32_xor_nat _ _ (by omega) (by omega), Nat.xor_zero]
    unfold cb; rw [if_neg (by omega)]
  · have e3 : bits .and .u32 (-((x % 2 : Nat) : Int) % 4294967296) 2197175160 = ((2197175160 : Nat) : Int) := by
      rw [g]; exact (u32_and_nat 4294967295 2197175160 (by omega) (by omega)).trans (by decide)
    rw [e3, u32_xor_nat _ _ (by omega) (by omega)]
    unfold cb; rw [if_pos g]
theorem byte_in (q : Nat) (b : UInt8) (h : q < 4294967296) : bits .xor .u32 (q : Int) (b.toNat : Int) = ((q ^^^ b.toNat : Nat) : Int) ∧ q ^^^ b.toNat < 4294967296 := by
  have := b.toNat_lt
  exact ⟨u32_xor_nat _ _ h (by omega), Nat.xor_lt_two_pow (n := 32) h (by omega)⟩
theorem ones_xor (x : Nat) (h : x < 4294967296) : bits .xor .u32 IntKind.u32.max (x : Int) = ((c1s - x : Nat) : Int) := by
  have e : IntKind.u32.max = ((c1s : Nat) : Int) := by decide
  rw [e, u32_xor_nat _ _ (by decide) h, comp_xor h, Nat.xor_comm]
theorem cn_step (k x : Nat) : cb (cn k x) = cn (k + 1) x := by rw [cn_add]; rfl
theorem cbs_step {bs : List UInt8} {j : Nat} {b : UInt8} (c : Nat) (h : bs[j]? = some b) : cbs c (bs.take (j + 1)) = cn 8 (cbs c (bs.take j) ^^^ b.toNat) := by
  obtain ⟨hj, e⟩ := List.getElem?_eq_some_iff.1 h
  rw [List.take_succ_eq_append_getElem hj, cbs_app, e]
  rfl

set_option maxHeartbeats 1000000 in
theorem sgo_any {w : World} {bs : List UInt8} {u : Value} (s : Nat) (hs : s < 4294967296) (hu : Bts w u bs) (hl : bs.length ≤ 900000000) :
    Calls Try.prog 56 #[.int .u32 s, u] w fun e w' => e = .returned (.int .u32 ((goS s bs : Nat) : Int)) ∧ w = w' := by
  obtain ⟨A, m, c, rfl⟩ := hu.form
  have HM := hide hu.len
  have hm2 : m ≤ 900000000 := by have := HM.out; omega
  go_enter Try.func56, Try.ntmps56
  go_wp2
  go_loop [5, 7, 12, 20] (fun r _ i _ => ∃ (j q : Nat), j ≤ m ∧ i = .int .i64 (j : Int) ∧ r = .int .u32 (q : Int) ∧ q < 4294967296 ∧ Hid (q = cbs (c1s - s) (bs.take j))) (fun _ _ i _ => m - (intOf i).toNat)
  case atStart => exact ⟨0, c1s - s, by omega, rfl, by rw [ones_xor s hs], by unfold c1s; omega, rfl⟩
  case round =>
    obtain ⟨j, q, hj, rfl, rfl, hq, HQ⟩ := hrel
    by_cases hlt : j < m
    · obtain ⟨B, off, b, hA, hb', hcell⟩ := hu.at_ hlt
      have HB := hide hb'
      clear hb'
      subst hA
      have hbl := b.toNat_lt
      go_wp2
      go_loop [5, 20] (fun r i => ∃ (k x : Nat), k ≤ 8 ∧ i = .int .i64 (k : Int) ∧ r = .int .u32 (x : Int) ∧ x < 4294967296 ∧ Hid (x = cn k (q ^^^ b.toNat))) (fun _ i => 8 - (intOf i).toNat)
      case atStart => exact ⟨0, q ^^^ b.toNat, by omega, rfl, by rw [(byte_in q b hq).1], (byte_in q b hq).2, rfl⟩
      case round =>
        obtain ⟨k, x, hk, rfl, rfl, hx, HX⟩ := hrel
        by_cases hk8 : k < 8
        · go_wp2
          go_round
          case rel => exact ⟨k + 1, cb x, by omega, by go_num, by rw [bit_step x hx], cb_lt hx, by show cb x = _; rw [HX.out, cn_step]⟩
          case measure => simp [intOf]; omega
        · have hk9 : k = 8 := by omega
          subst hk9
          go_wp2
          go_round
          case rel => exact ⟨j + 1, x, by omega, by go_num, rfl, hx, by show x = _; rw [HX.out, HQ.out, cbs_step _ HB.out]⟩
          case measure => simp [intOf]; omega
    · have hjm : j = m := by omega
      subst hjm
      go_wp2
      go_ret
      refine ⟨?_, rfl⟩
      rw [ones_xor q hq, HQ.out, List.take_of_length_le (by have := HM.out; omega)]
      rfl

theorem ssum_any {w : World} {bs : List UInt8} {u : Value} (hu : Bts w u bs) (hl : bs.length ≤ 900000000) :
    Calls Try.prog 57 #[u] w fun e w' => e = .returned (.int .u32 ((crc bs : Nat) : Int)) ∧ w = w' := by
  go_enter Try.func57, Try.ntmps57
  go_wp2_with (go_at_call 56; refine (sgo_any 0 (by omega) hu hl).mono ?_; rintro e w' ⟨rfl, rfl⟩)
  go_ret
  exact ⟨rfl, rfl⟩

set_option maxHeartbeats 1000000 in
/-- The document's Sum. -/
theorem srsum_any {w : World} {bs : List UInt8} {u : Value} (hu : Bts w u bs) (hl : bs.length ≤ 900000000) :
    Calls Try.prog 53 #[u] w fun e w' => e = .returned (.int .u32 ((crc bs : Nat) : Int)) ∧ w = w' := by
  obtain ⟨A, m, c, rfl⟩ := hu.form
  have HM := hide hu.len
  have hm2 : m ≤ 900000000 := by have := HM.out; omega
  go_enter Try.func53, Try.ntmps53
  go_wp2
  go_loop [3, 4, 5, 6] (fun r i _ _ => ∃ (j q : Nat), j ≤ m ∧ i = .int .i64 (j : Int) ∧ r = .int .u32 (q : Int) ∧ q < 4294967296 ∧ Hid (q = cbs c1s (bs.take j))) (fun _ i _ _ => m - (intOf i).toNat)
  case atStart => exact ⟨0, c1s, by omega, rfl, rfl, by decide, rfl⟩
  case round =>
    obtain ⟨j, q, hj, rfl, rfl, hq, HQ⟩ := hrel
    by_cases hlt : j < m
    · obtain ⟨B, off, b, hA, hb', hcell⟩ := hu.at_ hlt
      have HB := hide hb'
      clear hb'
      subst hA
      have hbl := b.toNat_lt
      go_wp2
      go_loop [3, 5, 6] (fun r i _ => ∃ (k x : Nat), k ≤ 8 ∧ i = .int .i64 (k : Int) ∧ r = .int .u32 (x : Int) ∧ x < 4294967296 ∧ Hid (x = cn k (q ^^^ b.toNat))) (fun _ i _ => 8 - (intOf i).toNat)
      case atStart => exact ⟨0, q ^^^ b.toNat, by omega, rfl, by rw [(byte_in q b hq).1], (byte_in q b hq).2, rfl⟩
      case round =>
        obtain ⟨k, x, hk, rfl, rfl, hx, HX⟩ := hrel
        by_cases hk8 : k < 8
        · rcases (by omega : x % 2 = 1 ∨ x % 2 = 0) with g | g
          · have hodd : (x : Int) % 2 = 1 := by omega
            have e1 : cb x = x / 2 ^^^ 2197175160 := by unfold cb; rw [if_pos g]
            have E1 := hide e1
            clear e1
            go_wp2
            refine ⟨⟨k + 1, cb x, by omega, by go_num, ?_, cb_lt hx, by show cb x = _; rw [HX.out, cn_step]⟩, by simp [intOf]; omega⟩
            have e2 : bits .xor .u32 ((x / 2 : Nat) : Int) 2197175160 = ((x / 2 ^^^ 2197175160 : Nat) : Int) := u32_xor_nat (x / 2) 2197175160 (by omega) (by omega)
            rw [show ((x : Int) / 2) = ((x / 2 : Nat) : Int) by omega, e2, E1.out]
          · have hodd : (x : Int) % 2 = 0 := by omega
            have e1 : cb x = x / 2 := by unfold cb; rw [if_neg (by omega)]
            have E1 := hide e1
            clear e1
            go_wp2
            go_round
            case rel => exact ⟨k + 1, cb x, by omega, by go_num, by rw [E1.out]; rfl, cb_lt hx, by show cb x = _; rw [HX.out, cn_step]⟩
            case measure => simp [intOf]; omega
        · have hk9 : k = 8 := by omega
          subst hk9
          go_wp2
          go_round
          case rel => exact ⟨j + 1, x, by omega, by go_num, rfl, hx, by show x = _; rw [HX.out, HQ.out, cbs_step _ HB.out]⟩
          case measure => simp [intOf]; omega
    · have hjm : j = m := by omega
      subst hjm
      go_wp2
      go_ret
      refine ⟨?_, rfl⟩
      have e : q = cbs c1s bs := by rw [HQ.out, List.take_of_length_le (by have := HM.out; omega)]
      show Ending.returned (.int .u32 (4294967295 - (q : Int))) = _
      have e2 : (4294967295 - (q : Int)) = ((crc bs : Nat) : Int) := by unfold crc; rw [← e]; unfold c1s; omega
      rw [e2]
end Go.Proofs.Ytikegnhjnbjclaa
