/- SealFinds walked: it returns true for any numbers and any bytes; no condition. -/
import Derived.Test.YthhdhihledmfoaaSem
import Derived.Test.YthhdhihledmfoaaOwb
import Derived.OpenShut
namespace Go.Proofs.Ythhdhihledmfoaa
open Go.ChangeShapes Go.WideShapes Go.RowKit
set_option linter.unusedVariables false
set_option linter.unusedSimpArgs false

/-- A frame of which so many bits are turned. -/
def trnF (k : Nat) (bs : List UInt8) (s B i : Nat) : List UInt8 := hdr k bs.length ++ numB (fsum k bs) 4 ++ bflips bs s B i
theorem trnF_len (k : Nat) (bs : List UInt8) (s B i : Nat) : (trnF k bs s B i).length = 12 + bs.length := by simp [trnF, hdr_len, numB_length, bflips_len]; omega
theorem trnF_zero (k : Nat) (bs : List UInt8) (s B : Nat) : trnF k bs s B 0 = frm k bs := rfl
theorem trnF_pre (k : Nat) (bs : List UInt8) : (hdr k bs.length ++ numB (fsum k bs) 4).length = 12 := by simp [hdr_len, numB_length]
theorem trnF_no {k s B i : Nat} {bs : List UInt8} (h : B / 2 ^ i % 2 ≠ 1) : trnF k bs s B (i + 1) = trnF k bs s B i := by
  unfold trnF; rw [bflips, if_neg h]
/-- The byte that is turned, and the frame behind it. -/
theorem trnF_yes {k s B i : Nat} {bs : List UInt8} (h : B / 2 ^ i % 2 = 1) (hp : s + i < 8 * bs.length) :
    ∃ x : UInt8, (trnF k bs s B i)[12 + (s + i) / 8]? = some x ∧ trnF k bs s B (i + 1) = (trnF k bs s B i).set (12 + (s + i) / 8) (x ^^^ UInt8.ofNat (2 ^ ((s + i) % 8))) := by
  have hl := bflips_len bs s B i
  have hj : (s + i) / 8 < (bflips bs s B i).length := by omega
  have hpre := trnF_pre k bs
  refine ⟨(bflips bs s B i)[(s + i) / 8], ?_, ?_⟩
  · unfold trnF
    rw [List.getElem?_append_right (by omega), hpre, Nat.add_sub_cancel_left, List.getElem?_eq_getElem hj]
  · unfold trnF
    rw [bflips, if_pos h, List.set_append_right _ _ (by omega), hpre, Nat.add_sub_cancel_left]
    unfold bflip
    rw [List.getD_eq_getElem?_getD, List.getElem?_eq_getElem hj, Option.getD_some]

theorem bit_test {B j : Nat} (h : B < 4294967296) : bits .and .u32 ((B : Int) / 2 ^ j) 1 = ((B / 2 ^ j % 2 : Nat) : Int) := by
  have e : ((B : Int) / 2 ^ j) = ((B / 2 ^ j : Nat) : Int) := by simp
  have hl : B / 2 ^ j ≤ B := Nat.div_le_self _ _
  have := u32_and_nat (B / 2 ^ j) 1 (by omega) (by omega)
  rw [Nat.and_one_is_mod] at this
  rw [e]
  exact this

theorem turn_byte (x : UInt8) (r : Nat) (hr : r < 8) : Value.int .u8 (bits .xor .u8 (x.toNat : Int) (2 ^ r % 256)) = bv (x ^^^ UInt8.ofNat (2 ^ r)) := by
  have hx := x.toNat_lt
  have hp : 2 ^ r < 256 := by
    have := Nat.pow_lt_pow_right (a := 2) (by omega) hr
    exact this
  have e : ((2 : Int) ^ r % 256) = ((2 ^ r : Nat) : Int) := by
    have h2 : ((2 : Int) ^ r) = ((2 ^ r : Nat) : Int) := by simp
    rw [h2]
    generalize (2 : Nat) ^ r = q at hp
    omega
  rw [e, u8_xor_nat _ _ (by omega) hp]
  unfold bv
  rw [UInt8.toNat_xor, UInt8.toNat_ofNat', Nat.mod_eq_of_lt hp]

theorem sealfinds_no (W : World) {A0 : Option Addr} {n0 c0 : Nat} (k a B : Nat) (hs : 1000 < n0 ∨ (n0 ≤ 1000 ∧ n0 < 5) ∨ (n0 ≤ 1000 ∧ 5 ≤ n0 ∧ B = 0)) :
    Calls Try.prog 6 #[.int .u16 k, .slice A0 n0 c0, .int .u16 a, .int .u32 B] W (TruePost W) := by
  rcases hs with h | ⟨h, h1⟩ | ⟨h, h1, rfl⟩
  all_goals
    go_enter Try.func6, Try.ntmps6
    go_wp2_with (go_at_call 8; refine (awake10_any _).mono ?_; rintro e w1 hp; obtain rfl := hp.1)
    go_ret
    exact ⟨rfl, hp.2⟩

set_option maxRecDepth 100000 in
set_option maxHeartbeats 4000000 in
theorem sealfinds_yes (W : World) {A0 : Option Addr} {n0 c0 : Nat} (k a B : Nat) (hk : k < 65536) (ha : a < 65536) (hB : B < 4294967296) (hB0 : 0 < B) {bs : List UInt8} (hb : Bts W (.slice A0 n0 c0) bs) (h0 : n0 ≤ 1000) (h5 : 5 ≤ n0) :
    Calls Try.prog 6 #[.int .u16 k, .slice A0 n0 c0, .int .u16 a, .int .u32 B] W (TruePost W) := by
  have HBL := hide hb.len
  have l0 : bs.length ≤ 1000 := by have := HBL.out; omega
  have hB1 : ¬ ((B : Int) = 0) := by omega
  have hB2 : ((B : Int) == 0) = false := by simp; omega
  go_enter Try.func6, Try.ntmps6
  go_wp2_with fail
  refine (sfr_yes hb hk (by omega)).mono ?_
  rintro e w1 ⟨A1, n1, c1, rfl, ho1, hk1⟩
  have fl := frm_len k bs
  obtain ⟨g, c1', e1, hg1, hg2⟩ := ho1.some_ (by omega)
  injection e1 with e1 e2 e3
  subst e1 e3
  obtain ⟨N, hN⟩ : ∃ N, N = 12 + n0 := ⟨_, rfl⟩
  obtain rfl : N = n1 := by rw [e2, fl, hN, HBL.out]
  have HN := hide hN
  have hN2 : (N : Int) = 12 + (n0 : Int) := by omega
  have hN3 : ((N : Int) != 12 + (n0 : Int)) = false := by simp; omega
  clear hN e2
  obtain ⟨s, hs⟩ : ∃ s : Nat, (a : Int) % (8 * (n0 : Int) - 31) = (s : Int) := ⟨((a : Int) % (8 * (n0 : Int) - 31)).toNat, by rw [Int.toNat_of_nonneg (Int.emod_nonneg _ (by omega))]⟩
  have hs1 : s + 32 ≤ 8 * n0 := by have := Int.emod_lt_of_pos (a : Int) (show (0 : Int) < 8 * (n0 : Int) - 31 by omega); omega
  go_wp2_with fail
  rw [hs]
  clear hs hN2 hN3 hB1 hB2
  have hI0 : Own w1 W.heap.size 5 (.slice (some ⟨g, 0, none⟩) N c1) (trnF k bs s B 0) := by rw [trnF_zero]; exact ho1
  have HI0 := hide hI0
  clear hI0 ho1
  go_loopw [11, 12] (fun i _ wr => ∃ j : Nat, j ≤ 32 ∧ i = .int .i64 (j : Int) ∧ Own wr W.heap.size 5 (.slice (some ⟨g, 0, none⟩) N c1) (trnF k bs s B j) ∧ Kp No W wr) (fun i _ _ => 32 - (intOf i).toNat)
  case atStart => exact ⟨0, by omega, rfl, HI0.out, hk1⟩
  case round =>
    obtain ⟨j, hj, rfl, hO, hkp⟩ := hrel
    by_cases hlt : j < 32
    · by_cases hbit : B / 2 ^ j % 2 = 1
      · obtain ⟨x, hx, hstep⟩ := trnF_yes (k := k) (s := s) (bs := bs) hbit (by have := HBL.out; omega)
        have HST := hide hstep
        have HX := hide hx
        have hcell := hO.cellAt hx
        have hfr := hO.frozenAt (12 + (s + j) / 8)
        have hxl := x.toNat_lt
        have hb1 : bits .and .u32 ((B : Int) / 2 ^ j) 1 = 1 := by rw [bit_test hB, hbit]; rfl
        have hi1 : 0 ≤ 12 + ((s : Int) + j) / 8 := by omega
        have hi2 : 12 + ((s : Int) + j) / 8 < N := by have := HN.out; omega
        clear hx hstep
        go_wp2
        refine ⟨⟨j + 1, by omega, by go_num, ?_, ?_⟩, by simp [intOf]; omega⟩
        · rw [HST.out]
          exact hO.set (by have := HN.out; omega) _ _ (turn_byte x _ (Nat.mod_lt _ (by omega)))
        · exact hkp.fresh hg1 _
      · have hb1 : bits .and .u32 ((B : Int) / 2 ^ j) 1 = 0 := by rw [bit_test hB]; have := Nat.mod_two_eq_zero_or_one (B / 2 ^ j); omega
        go_wp2
        go_round
        case rel => exact ⟨j + 1, by omega, by go_num, by rw [trnF_no hbit]; exact hO, hkp⟩
        case measure => simp [intOf]; omega
    · obtain rfl : 32 = j := by omega
      have hE := frm_turned (s := s) (B := B) hk (by omega : bs.length ≤ 65536) hB (by omega) (by have := HBL.out; omega)
      have HE := hide hE
      clear hE
      go_wp2_with fail
      refine (sopen_any hO.bts (own_cap hO) (by have := HN.out; omega)).mono ?_
      rintro e w4 ⟨A4, n4, c4, rfl, ho4, hk4⟩
      rw [show opE (trnF k bs s B 32) = 22 from HE.out]
      go_wp2_with fail
      refine (awake10_any _).mono ?_
      rintro e w5 hp
      obtain rfl := hp.1
      go_wp2
      go_ret
      exact ⟨rfl, (hkp.trans' hk4).trans' hp.2⟩
theorem sealfinds_walk (W : World) (z : Int) (hz : (Lit.int .u16 z).wf = true) {A0 : Option Addr} {n0 c0 : Nat} {bs : List UInt8} (hb : Bts W (.slice A0 n0 c0) bs) (y : Int) (hy : (Lit.int .u16 y).wf = true) (v : Int) (hv : (Lit.int .u32 v).wf = true) :
    Calls Try.prog 6 #[.int .u16 z, .slice A0 n0 c0, .int .u16 y, .int .u32 v] W fun e W' => e = .returned (.bool true) ∧ Below W.heap.size W W' := by
  have b1 := bounds_u16 hz
  have b2 := bounds_u16 hy
  have b3 := bounds_u32 hv
  obtain ⟨k, rfl⟩ := Int.eq_ofNat_of_zero_le b1.1
  obtain ⟨a, rfl⟩ := Int.eq_ofNat_of_zero_le b2.1
  obtain ⟨B, rfl⟩ := Int.eq_ofNat_of_zero_le b3.1
  by_cases h : 1000 < n0 ∨ (n0 ≤ 1000 ∧ n0 < 5) ∨ (n0 ≤ 1000 ∧ 5 ≤ n0 ∧ B = 0)
  · exact (sealfinds_no W k a B h).mono fun e W' p => ⟨p.1, p.2.below0⟩
  · exact (sealfinds_yes W k a B (by omega) (by omega) (by omega) (by omega) hb (by omega) (by omega)).mono fun e W' p => ⟨p.1, p.2.below0⟩
end Go.Proofs.Ythhdhihledmfoaa
