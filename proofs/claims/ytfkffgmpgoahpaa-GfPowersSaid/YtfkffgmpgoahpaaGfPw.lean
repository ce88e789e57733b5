/- GfPowers walked: it returns true for every two bytes and every exponent, with memory as it was. -/
import Derived.Test.YtfkffgmpgoahpaaGfA
import Derived.Test.YtfkffgmpgoahpaaGfp
import Derived.Test.YtfkffgmpgoahpaaGfo
import Derived.Test.YtfkffgmpgoahpaaGfq
import Derived.Test.YtfkffgmpgoahpaaGfv
namespace Go.Proofs.Ytfkffgmpgoahpaa
open Go.RowKit
set_option linter.unusedVariables false

set_option maxRecDepth 100000 in
set_option maxHeartbeats 4000000 in
theorem gfpowers_walk (a0 a1 a2 : Int) (w0 : (Lit.int .u8 a0).wf = true) (w1 : (Lit.int .u8 a1).wf = true) (w2 : (Lit.int .i64 a2).wf = true) (w : World) :
    Calls Try.prog 4 #[.int .u8 a0, .int .u8 a1, .int .i64 a2] w fun e w' => e = .returned (.bool true) ∧ Grown w w' := by
  obtain ⟨a, rfl, ha⟩ := of_wf_u8 w0
  obtain ⟨b, rfl, hb⟩ := of_wf_u8 w1
  obtain ⟨hn1, hn2⟩ := of_wf_i64 w2
  clear w0 w1 w2
  by_cases h0 : 0 < a
  · go_enter Try.func4, Try.ntmps4
    go_wp2_with fail
    refine (inv_any _ _ ha h0).mono ?_
    rintro e w' ⟨rfl, rfl⟩
    go_wp2_with fail
    refine (div_any _ _ _ hb ha h0).mono ?_
    rintro e w' ⟨rfl, rfl⟩
    go_wp2_with fail
    refine (refinv_any _ _ ha h0).mono ?_
    rintro e w' ⟨rfl, rfl⟩
    go_wp2_with fail
    refine (refmul_any _ _ _ hb (ginv_lt a)).mono ?_
    rintro e w' ⟨rfl, rfl⟩
    by_cases hpos : 0 < a2
    · have hneg : ¬ a2 < 0 := by omega
      have hk : Hid (gpow a ((a2 - 1) % 255 + 1).toNat = gpow a a2.toNat) := by
        have := gpow_low ha a2.toNat (by omega)
        rw [show ((a2 - 1) % 255 + 1).toNat = (a2.toNat - 1) % 255 + 1 by omega]
        exact this
      go_wp2_with fail
      refine (pow_any a _ _ ha hn1 hn2).mono ?_
      rintro e w' ⟨rfl, rfl⟩
      go_wp2_with fail
      rw [show (a2 - 1) % 255 + 1 = ((((a2 - 1) % 255 + 1).toNat : Nat) : Int) by omega]
      refine (refpow_any a _ _ ha (by omega)).mono ?_
      rintro e w' ⟨rfl, rfl⟩
      rw [hk.out]
      go_wp2_with fail
      refine (order_any a _ ha h0).mono ?_
      rintro e w' ⟨o, rfl, ho, rfl⟩
      obtain ⟨ho1, ho2, ho3, ho4⟩ := ho
      have ho3 := hide2 ho3
      have ho4 := hide2 ho4
      go_wp2_with fail
      refine (refpow_any a o _ ha (by omega)).mono ?_
      rintro e w' ⟨rfl, rfl⟩
      rw [ho3.out]
      go_wp2_with fail
      go_loop [13] (fun i => ∃ k : Nat, 1 ≤ k ∧ k ≤ o ∧ i = .int .i64 k) (fun i => 256 - (intOf i).toNat)
      case atStart => exact ⟨1, by omega, by omega, rfl⟩
      case round =>
        obtain ⟨k, hk1, hk2, rfl⟩ := hrel
        by_cases hlt : k < o
        · have hne := hide2 (ho4.out k hk1 hlt)
          have hpl : gpow a k < 256 := gpow_lt k
          have hne2 : ((gpow a k : Int) == 1) = false := by
            rw [beq_eq_false_iff_ne]
            have := hne.out
            omega
          by_cases hm : o % k = 0
          · have hm2 : (((o : Int) % (k : Int)) == 0) = true := by
              rw [beq_iff_eq]
              omega
            clear hm
            go_wp2_with fail
            refine (refpow_any a k _ ha (by omega)).mono ?_
            rintro e w' ⟨rfl, rfl⟩
            go_wp2_with fail
            go_round
            case rel => exact ⟨k + 1, by omega, by omega, by go_num⟩
            case measure => simp [intOf]; omega
          · have hm2 : (((o : Int) % (k : Int)) == 0) = false := by
              rw [beq_eq_false_iff_ne]
              omega
            clear hm
            go_wp2_with fail
            go_round
            case rel => exact ⟨k + 1, by omega, by omega, by go_num⟩
            case measure => simp [intOf]; omega
        · go_wp2_with fail
          refine (awake_any _).mono ?_
          rintro e w' ⟨rfl, rfl⟩
          go_wp2_with fail
          go_ret
          exact ⟨rfl, Grown.refl _⟩
    · have hk : Hid (gpow a 0 = gpow a a2.toNat) := by
        rw [show a2.toNat = 0 by omega]
        exact hide2 rfl
      by_cases hneg : a2 < 0
      · go_wp2_with fail
        refine (pow_any a _ _ ha hn1 hn2).mono ?_
        rintro e w' ⟨rfl, rfl⟩
        go_wp2_with fail
        refine (refpow_any a 0 _ ha (by omega)).mono ?_
        rintro e w' ⟨rfl, rfl⟩
        rw [hk.out]
        go_wp2_with fail
        refine (order_any a _ ha h0).mono ?_
        rintro e w' ⟨o, rfl, ho, rfl⟩
        obtain ⟨ho1, ho2, ho3, ho4⟩ := ho
        have ho3 := hide2 ho3
        have ho4 := hide2 ho4
        go_wp2_with fail
        refine (refpow_any a o _ ha (by omega)).mono ?_
        rintro e w' ⟨rfl, rfl⟩
        rw [ho3.out]
        go_wp2_with fail
        go_loop [13] (fun i => ∃ k : Nat, 1 ≤ k ∧ k ≤ o ∧ i = .int .i64 k) (fun i => 256 - (intOf i).toNat)
        case atStart => exact ⟨1, by omega, by omega, rfl⟩
        case round =>
          obtain ⟨k, hk1, hk2, rfl⟩ := hrel
          by_cases hlt : k < o
          · have hne := hide2 (ho4.out k hk1 hlt)
            have hpl : gpow a k < 256 := gpow_lt k
            have hne2 : ((gpow a k : Int) == 1) = false := by
              rw [beq_eq_false_iff_ne]
              have := hne.out
              omega
            by_cases hm : o % k = 0
            · have hm2 : (((o : Int) % (k : Int)) == 0) = true := by
                rw [beq_iff_eq]
                omega
              clear hm
              go_wp2_with fail
              refine (refpow_any a k _ ha (by omega)).mono ?_
              rintro e w' ⟨rfl, rfl⟩
              go_wp2_with fail
              go_round
              case rel => exact ⟨k + 1, by omega, by omega, by go_num⟩
              case measure => simp [intOf]; omega
            · have hm2 : (((o : Int) % (k : Int)) == 0) = false := by
                rw [beq_eq_false_iff_ne]
                omega
              clear hm
              go_wp2_with fail
              go_round
              case rel => exact ⟨k + 1, by omega, by omega, by go_num⟩
              case measure => simp [intOf]; omega
          · go_wp2_with fail
            refine (awake_any _).mono ?_
            rintro e w' ⟨rfl, rfl⟩
            go_wp2_with fail
            go_ret
            exact ⟨rfl, Grown.refl _⟩
      · obtain rfl : a2 = 0 := by omega
        go_wp2_with fail
        refine (pow_any a _ _ ha (by decide) (by decide)).mono ?_
        rintro e w' ⟨rfl, rfl⟩
        go_wp2_with fail
        refine (refpow_any a 0 _ ha (by omega)).mono ?_
        rintro e w' ⟨rfl, rfl⟩
        rw [hk.out]
        go_wp2_with fail
        refine (order_any a _ ha h0).mono ?_
        rintro e w' ⟨o, rfl, ho, rfl⟩
        obtain ⟨ho1, ho2, ho3, ho4⟩ := ho
        have ho3 := hide2 ho3
        have ho4 := hide2 ho4
        go_wp2_with fail
        refine (refpow_any a o _ ha (by omega)).mono ?_
        rintro e w' ⟨rfl, rfl⟩
        rw [ho3.out]
        go_wp2_with fail
        go_loop [13] (fun i => ∃ k : Nat, 1 ≤ k ∧ k ≤ o ∧ i = .int .i64 k) (fun i => 256 - (intOf i).toNat)
        case atStart => exact ⟨1, by omega, by omega, rfl⟩
        case round =>
          obtain ⟨k, hk1, hk2, rfl⟩ := hrel
          by_cases hlt : k < o
          · have hne := hide2 (ho4.out k hk1 hlt)
            have hpl : gpow a k < 256 := gpow_lt k
            have hne2 : ((gpow a k : Int) == 1) = false := by
              rw [beq_eq_false_iff_ne]
              have := hne.out
              omega
            by_cases hm : o % k = 0
            · have hm2 : (((o : Int) % (k : Int)) == 0) = true := by
                rw [beq_iff_eq]
                omega
              clear hm
              go_wp2_with fail
              refine (refpow_any a k _ ha (by omega)).mono ?_
              rintro e w' ⟨rfl, rfl⟩
              go_wp2_with fail
              go_round
              case rel => exact ⟨k + 1, by omega, by omega, by go_num⟩
              case measure => simp [intOf]; omega
            · have hm2 : (((o : Int) % (k : Int)) == 0) = false := by
                rw [beq_eq_false_iff_ne]
                omega
              clear hm
              go_wp2_with fail
              go_round
              case rel => exact ⟨k + 1, by omega, by omega, by go_num⟩
              case measure => simp [intOf]; omega
          · go_wp2_with fail
            refine (awake_any _).mono ?_
            rintro e w' ⟨rfl, rfl⟩
            go_wp2_with fail
            go_ret
            exact ⟨rfl, Grown.refl _⟩
  · obtain rfl : a = 0 := by omega
    clear h0
    go_enter Try.func4, Try.ntmps4
    go_wp2_with fail
    refine (inv_zero _).mono ?_
    rintro e w' ⟨rfl, rfl⟩
    go_wp2_with fail
    refine (div_zero _ _ hb).mono ?_
    rintro e w' ⟨rfl, rfl⟩
    go_wp2_with fail
    refine (order_zero _).mono ?_
    rintro e w' ⟨rfl, rfl⟩
    by_cases hpos : 0 < a2
    · have hneg : ¬ a2 < 0 := by omega
      have hk : Hid (gpow 0 ((a2 - 1) % 255 + 1).toNat = gpow 0 a2.toNat) := by
        have := gpow_low ha a2.toNat (by omega)
        rw [show ((a2 - 1) % 255 + 1).toNat = (a2.toNat - 1) % 255 + 1 by omega]
        exact this
      go_wp2_with fail
      refine (pow_any 0 _ _ ha hn1 hn2).mono ?_
      rintro e w' ⟨rfl, rfl⟩
      go_wp2_with fail
      rw [show (a2 - 1) % 255 + 1 = ((((a2 - 1) % 255 + 1).toNat : Nat) : Int) by omega]
      refine (refpow_any 0 _ _ ha (by omega)).mono ?_
      rintro e w' ⟨rfl, rfl⟩
      rw [hk.out]
      go_wp2_with fail
      refine (order_zero _).mono ?_
      rintro e w' ⟨rfl, rfl⟩
      go_wp2_with fail
      go_loop [13] (fun i => i = .int .i64 1) (fun i => 0)
      case atStart => rfl
      case round =>
        obtain rfl := hrel
        go_wp2_with fail
        refine (awake_any _).mono ?_
        rintro e w' ⟨rfl, rfl⟩
        go_wp2_with fail
        go_ret
        exact ⟨rfl, Grown.refl _⟩
    · have hk : Hid (gpow 0 0 = gpow 0 a2.toNat) := by
        rw [show a2.toNat = 0 by omega]
        exact hide2 rfl
      by_cases hneg : a2 < 0
      · go_wp2_with fail
        refine (pow_any 0 _ _ ha hn1 hn2).mono ?_
        rintro e w' ⟨rfl, rfl⟩
        go_wp2_with fail
        refine (refpow_any 0 0 _ ha (by omega)).mono ?_
        rintro e w' ⟨rfl, rfl⟩
        rw [hk.out]
        go_wp2_with fail
        refine (order_zero _).mono ?_
        rintro e w' ⟨rfl, rfl⟩
        go_wp2_with fail
        go_loop [13] (fun i => i = .int .i64 1) (fun i => 0)
        case atStart => rfl
        case round =>
          obtain rfl := hrel
          go_wp2_with fail
          refine (awake_any _).mono ?_
          rintro e w' ⟨rfl, rfl⟩
          go_wp2_with fail
          go_ret
          exact ⟨rfl, Grown.refl _⟩
      · obtain rfl : a2 = 0 := by omega
        go_wp2_with fail
        refine (pow_any 0 _ _ ha (by decide) (by decide)).mono ?_
        rintro e w' ⟨rfl, rfl⟩
        go_wp2_with fail
        refine (refpow_any 0 0 _ ha (by omega)).mono ?_
        rintro e w' ⟨rfl, rfl⟩
        rw [hk.out]
        go_wp2_with fail
        refine (order_zero _).mono ?_
        rintro e w' ⟨rfl, rfl⟩
        go_wp2_with fail
        go_loop [13] (fun i => i = .int .i64 1) (fun i => 0)
        case atStart => rfl
        case round =>
          obtain rfl := hrel
          go_wp2_with fail
          refine (awake_any _).mono ?_
          rintro e w' ⟨rfl, rfl⟩
          go_wp2_with fail
          go_ret
          exact ⟨rfl, Grown.refl _⟩
end Go.Proofs.Ytfkffgmpgoahpaa
