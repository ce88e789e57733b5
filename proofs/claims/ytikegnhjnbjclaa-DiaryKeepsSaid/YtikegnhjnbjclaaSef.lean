/- The document's Of (a number's bytes read) and Frame of layer 10, each as a contract over memory. -/
import Derived.Test.YtikegnhjnbjclaaSee
namespace Go.Proofs.Ytikegnhjnbjclaa
open Go.RowKit
set_option linter.unusedVariables false
set_option maxRecDepth 20000
set_option linter.unusedSimpArgs false

theorem ofB_drop {bs : List UInt8} {p : Nat} {b : UInt8} (h : bs[p]? = some b) : ofB (bs.drop p) = ofB (bs.drop (p + 1)) * 256 + b.toNat := by
  obtain ⟨hp, e⟩ := List.getElem?_eq_some_iff.1 h
  rw [List.drop_eq_getElem_cons hp, e]
  show b.toNat + 256 * ofB _ = _
  omega

set_option maxHeartbeats 1000000 in
/-- The document's number of bytes. -/
theorem rof_any {w : World} {bs : List UInt8} {u : Value} (hu : Bts w u bs) (h8 : bs.length ≤ 8) :
    Calls Try.prog 30 #[u] w fun e w' => e = .returned (.int .u64 ((ofB bs : Nat) : Int)) ∧ w = w' := by
  obtain ⟨A, m, c, rfl⟩ := hu.form
  have HM := hide hu.len
  have hm2 : m ≤ 8 := by have := HM.out; omega
  go_enter Try.func30, Try.ntmps30
  go_wp2
  go_loop [3, 4] (fun r i => ∃ (j q : Nat) (z : Int), j ≤ m ∧ z + 1 ≤ j ∧ j ≤ z + 1 ∧ i = .int .i64 z ∧ r = .int .u64 (q : Int) ∧ Hid (q = ofB (bs.drop j))) (fun _ i => (intOf i + 1).toNat)
  case atStart => exact ⟨m, 0, (m : Int) - 1, by omega, by omega, by omega, rfl, rfl, by show 0 = _; rw [List.drop_eq_nil_of_le (by have := HM.out; omega)]; rfl⟩
  case round =>
    obtain ⟨j, q, z, hj, hz1, hz2, rfl, rfl, HQ⟩ := hrel
    by_cases h0 : 0 ≤ z
    · obtain ⟨p, rfl⟩ := Int.eq_ofNat_of_zero_le h0
      obtain ⟨B, off, b, hA, hb', hcell⟩ := hu.at_ (j := p) (by omega)
      have HB := hide hb'
      clear hb'
      subst hA
      have hbl := b.toNat_lt
      have hq : q ≤ 72057594037927935 := by
        have h1 := ofB_lt (bs.drop j)
        have h2 : (2 : Nat) ^ (8 * (bs.drop j).length) ≤ 2 ^ 56 := Nat.pow_le_pow_right (by omega) (by rw [List.length_drop]; have := HM.out; omega)
        have := HQ.out
        omega
      go_wp2
      go_round
      case rel => exact ⟨p, q * 256 + b.toNat, (p : Int) - 1, by omega, by omega, by omega, rfl, by go_num, by show q * 256 + b.toNat = _; rw [HQ.out, ofB_drop HB.out, show j = p + 1 by omega]⟩
      case measure => simp [intOf]
    · go_wp2
      go_ret
      refine ⟨?_, rfl⟩
      rw [HQ.out, show j = 0 by omega]
      rfl

set_option maxHeartbeats 1000000 in
/-- The document's frame. -/
theorem rfr_any {w : World} {k n c : Nat} {A : Option Addr} {bs : List UInt8} (hb : Bts w (.slice A n c) bs) (hk : k < 65536) (h : n ≤ 65536) :
    Calls Try.prog 35 #[.int .u16 k, .slice A n c] w (OwnPost w (frm k bs)) := by
  obtain ⟨i0, hi0, hz0, hz1, hz2⟩ := byte_parts
  have HL := hide hb.len
  have hl : bs.length ≤ 65536 := by have := HL.out; omega
  have K2 : IsK 2 2 := ⟨by omega, by omega⟩
  have K4 : IsK 4 4 := ⟨by omega, by omega⟩
  go_enter Try.func35, Try.ntmps35
  go_wp2_with fail
  refine (rnum_any 53021 2 2 (by omega) K2).mono ?_
  rintro e w1 ⟨A1, n1, c1, rfl, ho1, k1⟩
  go_wp2_with fail
  refine (rnum_any k 2 2 (by omega) K2).mono ?_
  rintro e w2 ⟨A2, n2, c2, rfl, ho2, k2⟩
  go_wp2_with fail
  refine (rnum_any n 4 4 (by omega) K4).mono ?_
  rintro e w3 ⟨A3, n3, c3, rfl, ho3, k3⟩
  have K03 : Kp No w w3 := (k1.trans' k2).trans' k3
  have HB1 := hide ((ho1.bts.no k2).no k3)
  have HB2 := hide (ho2.bts.no k3)
  have HB3 := hide ho3.bts
  have z3 := K03.size
  clear ho1 ho2 ho3
  go_wp2_with fail
  refine (join_any (bss := [numB 53021 2, numB k 2, numB n 4]) (RowsAt.new w3 [.slice A1 n1 c1, .slice A2 n2 c2, .slice A3 n3 c3] [numB 53021 2, numB k 2, numB n 4] rfl ?hb) rfl (by simp) (by simp [numB_length])).mono ?_
  case hb =>
    intro j v bs hj hb
    match j, hj, hb with
    | 0, hj, hb =>
      simp at hj hb
      subst hj hb
      exact HB1.out
    | 1, hj, hb =>
      simp at hj hb
      subst hj hb
      exact HB2.out
    | 2, hj, hb =>
      simp at hj hb
      subst hj hb
      exact HB3.out
    | j + 3, hj, _ => simp at hj
  rintro e w4 ⟨A4, n4, c4, rfl, ho4, k4⟩
  have e4 : [numB 53021 2, numB k 2, numB n 4].flatten = hdr k bs.length := by rw [← HL.out]; simp [hdr]
  rw [e4] at ho4
  have K04 : Kp No w w4 := (K03.trans' (Kp.alloc No _ _)).trans' k4
  have z4 := K04.size
  have l8 := hdr_len k bs.length
  go_wp2_with (first
    | (at_builtin
       refine wpList_app rfl (.tmp 17) (.tmp 18) _ rfl i0 Try.underlying22 hi0 hz0 hz1 hz2 rfl (own_empty w4) rfl (ho4.bts.no (Kp.alloc No w4 _)) ?hl (by simp) ?_
       case hl => rw [l8]; simp
       intro A5 n5 c5 w5 h5
       have k5 : Kp No w4 w5 := h5.keeps (own_empty w4) (Kp.alloc No w4 _)
       have z5 := k5.size)
    | (at_builtin
       refine wpList_app rfl (.tmp 19) (.tmp 20) _ rfl i0 Try.underlying22 hi0 hz0 hz1 hz2 rfl h5.own rfl (hb.no (K04.trans' k5)) ?hl z5 ?_
       case hl => simp [l8]; omega
       intro A6 n6 c6 w6 h6
       have k6 : Kp No w4 w6 := h6.keeps h5.own k5))
  have b6 : Bts w6 (.slice A6 n6 c6) (hdr k bs.length ++ bs) := by simpa using h6.own.bts
  refine (srsum_any b6 (by simp [l8]; omega)).mono ?_
  rintro e w' ⟨rfl, rfl⟩
  rw [show crc (hdr k bs.length ++ bs) = fsum k bs from rfl]
  have hs := fsum_lt k bs
  have K06 : Kp No w w6 := K04.trans' k6
  go_wp2_with fail
  refine (rnum_any (fsum k bs) 4 4 (by omega) K4).mono ?_
  rintro e w7 ⟨A7, n7, c7, rfl, ho7, k7⟩
  have K07 : Kp No w w7 := K06.trans' k7
  have HB4 := hide ((ho4.bts.no k6).no k7)
  have HB7 := hide ho7.bts
  have HBb := hide (hb.no K07)
  clear ho4 ho7
  go_wp2_with fail
  refine (join_any (bss := [hdr k bs.length, numB (fsum k bs) 4, bs]) (RowsAt.new w7 [.slice A4 n4 c4, .slice A7 n7 c7, .slice A n c] [hdr k bs.length, numB (fsum k bs) 4, bs] rfl ?hb) rfl (by simp) ?hl).mono ?_
  case hl => simp [hdr_len, numB_length]; omega
  case hb =>
    intro j v bs hj hb
    match j, hj, hb with
    | 0, hj, hb =>
      simp at hj hb
      subst hj hb
      exact HB4.out
    | 1, hj, hb =>
      simp at hj hb
      subst hj hb
      exact HB7.out
    | 2, hj, hb =>
      simp at hj hb
      subst hj hb
      exact HBb.out
    | j + 3, hj, _ => simp at hj
  rintro e w8 ⟨A8, n8, c8, rfl, ho8, k8⟩
  have e8 : [hdr k bs.length, numB (fsum k bs) 4, bs].flatten = frm k bs := by simp [frm]
  rw [e8] at ho8
  have z7 := (K07.trans' (Kp.alloc No w7 (.cells #[.slice A4 n4 c4, .slice A7 n7 c7, .slice A n c] 22))).size
  go_wp2
  go_ret
  exact ⟨A8, n8, c8, rfl, ho8.rebase fun j hj => Nat.le_trans z7 (ho8.ge j hj), (K07.trans' (Kp.alloc No w7 _)).trans' k8⟩
end Go.Proofs.Ytikegnhjnbjclaa
