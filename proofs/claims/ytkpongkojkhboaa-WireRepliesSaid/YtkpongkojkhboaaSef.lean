/- The document's Of (a number's bytes read) and Frame of layer 10, each as a contract over memory. -/
import Derived.Test.YtkpongkojkhboaaSee
namespace Go.Proofs.Ytkpongkojkhboaa
open Go.RowKit
set_option linter.unusedVariables false
set_option maxRecDepth 20000
set_option linter.unusedSimpArgs false

theorem ofB_drop {bs : List UInt8} {p : Nat} {b : UInt8} (h : bs[p]? = some b) : ofB (bs.drop p) = ofB (bs.drop (p + 1)) * 256 + b.toNat := by
  obtain ⟨hp, e⟩ := List.getElem?_eq_some_iff.1 h
  rw [List.drop_eq_getElem_cons hp, e]
  show b.toNat + 256 * ofB _ = _
  omega

set_option maxHeartbeats 1000000 in
/-- The document's number of bytes. -/
theorem rof_any {w : World} {bs : List UInt8} {u : Value} (hu : Bts w u bs) (h8 : bs.length ≤ 8) :
    Calls Try.prog 35 #[u] w fun e w' => e = .returned (.int .u64 ((ofB bs : Nat) : Int)) ∧ w = w' := by
  obtain ⟨A, m, c, rfl⟩ := hu.form
  have HM := hide hu.len
  have hm2 : m ≤ 8 := by have := HM.out; omega
  go_enter Try.func35, Try.ntmps35
  go_wp2
  go_loop [3, 4] (fun r i => ∃ (j q : Nat) (z : Int), j ≤ m ∧ z + 1 ≤ j ∧ j ≤ z + 1 ∧ i = .int .i64 z ∧ r = .int .u64 (q : Int) ∧ Hid (q = ofB (bs.drop j))) (fun _ i => (intOf i + 1).toNat)
  case atStart => exact ⟨m, 0, (m : Int) - 1, by omega, by omega, by omega, rfl, rfl, by show 0 = _; rw [List.drop_eq_nil_of_le (by have := HM.out; omega)]; rfl⟩
  case round =>
    obtain ⟨j, q, z, hj, hz1, hz2, rfl, rfl, HQ⟩ := hrel
    by_cases h0 : 0 ≤ z
    · obtain ⟨p, rfl⟩ := Int.eq_ofNat_of_zero_le h0
      obtain ⟨B, off, b, hA, hb', hcell⟩ := hu.at_ (j := p) (by omega)
      have HB := hide hb'
      clear hb'
      subst hA
      have hbl := b.toNat_lt
      have hq : q ≤ 72057594037927935 := by
        have h1 := ofB_lt (bs.drop j)
        have h2 : (2 : Nat) ^ (8 * (bs.drop j).length) ≤ 2 ^ 56 := Nat.pow_le_pow_right (by omega) (by rw [List.length_drop]; have := HM.out; omega)
        have := HQ.out
        omega
      go_wp2
      go_round
      case rel => exact ⟨p, q * 256 + b.toNat, (p : Int) - 1, by omega, by omega, by omega, rfl, by go_num, by show q * 256 + b.toNat = _; rw [HQ.out, ofB_drop HB.out, show j = p + 1 by omega]⟩
      case measure => simp [intOf]
    · go_wp2
      go_ret
      refine ⟨?_, rfl⟩
      rw [HQ.out, show j = 0 by omega]
      rfl

end Go.Proofs.Ytkpongkojkhboaa
