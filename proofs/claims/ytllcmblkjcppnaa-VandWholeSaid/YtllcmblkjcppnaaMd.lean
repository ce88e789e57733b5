/- Package mat's Dot and Turned, each as a contract over memory. -/
import Derived.Test.YtllcmblkjcppnaaMu
namespace Go.Proofs.Ytllcmblkjcppnaa
open Go.RowKit
set_option linter.unusedVariables false

/-- The sum of two bytes, out of the walk's sight. -/
def ux (a b : UInt8) : UInt8 := a ^^^ b
theorem ux_toNat (a b : UInt8) : (ux a b).toNat = a.toNat ^^^ b.toNat := ux_nat a b
theorem addU_any (a b : UInt8) (w : World) : Calls Try.prog 33 #[.int .u8 (a.toNat : Int), .int .u8 (b.toNat : Int)] w fun e w' => e = .returned (.int .u8 ((ux a b).toNat : Int)) ∧ w = w' := by
  rw [ux_toNat]
  exact add_any a.toNat b.toNat w (u8_lt a) (u8_lt b)
theorem mulU_any (a b : UInt8) (w : World) : Calls Try.prog 24 #[.int .u8 (a.toNat : Int), .int .u8 (b.toNat : Int)] w fun e w' => e = .returned (.int .u8 ((um a b).toNat : Int)) ∧ w = w' := by
  rw [um_nat]
  exact mul_any a.toNat b.toNat w (u8_lt a) (u8_lt b)
theorem addU_q (w : World) (n : Nat) (a b : UInt8) : Calls Try.prog 33 #[.int .u8 (a.toNat : Int), .int .u8 (b.toNat : Int)] (w.drewN n) fun e w' => e = .returned (.int .u8 ((ux a b).toNat : Int)) ∧ ∃ k, w' = w.drewN k :=
  (addU_any a b _).mono fun _ _ ⟨he, hw⟩ => ⟨he, n, hw.symm⟩
theorem mulU_q (w : World) (n : Nat) (a b : UInt8) : Calls Try.prog 24 #[.int .u8 (a.toNat : Int), .int .u8 (b.toNat : Int)] (w.drewN n) fun e w' => e = .returned (.int .u8 ((um a b).toNat : Int)) ∧ ∃ k, w' = w.drewN k :=
  (mulU_any a b _).mono fun _ _ ⟨he, hw⟩ => ⟨he, n, hw.symm⟩

/-- A list as a function. -/
def lg (l : List UInt8) (j : Nat) : UInt8 := l.getD j 0
theorem lg_of {l : List UInt8} {j : Nat} {b : UInt8} (h : l[j]? = some b) : lg l j = b := by simp [lg, h]
theorem lg_rowL {c j : Nat} (s : Nat → UInt8) (h : j < c) : lg (rowL c s) j = s j := lg_of (rowL_get s h)

set_option maxHeartbeats 1000000 in
theorem dot_any {w : World} {u v : Value} {a b : List UInt8} (hu : Bts w u a) (hv : Bts w v b) (q : Nat) (hq : q = min a.length b.length) (ha : a.length ≤ 1000000000000) (hb : b.length ≤ 1000000000000) :
    Calls Try.prog 41 #[u, v] w fun e w' => e = .returned (.int .u8 ((ud (lg a) (lg b) q).toNat : Int)) ∧ Sm w w' := by
  obtain ⟨A, n, c, rfl⟩ := hu.form
  obtain ⟨B, m, d, rfl⟩ := hv.form
  have hn := hu.len
  have hm := hv.len
  have hq1 : q ≤ n := by omega
  have hq2 : q ≤ m := by omega
  have hn2 : n ≤ 1000000000000 := by omega
  have hm2 : m ≤ 1000000000000 := by omega
  have hcase : (m < n ∧ q = m) ∨ (¬ m < n ∧ q = n) := by omega
  clear hq hn hm ha hb
  rcases hcase with ⟨hmn, rfl⟩ | ⟨hmn, rfl⟩
  all_goals
    go_enter Try.func41, Try.ntmps41
    go_wp2_with fail
    go_loopw [5, 12] (fun s i wr => ∃ k : Nat, k ≤ q ∧ i = .int .i64 (k : Int) ∧ s = .int .u8 ((ud (lg a) (lg b) k).toNat : Int) ∧ Sm w wr) (fun _ i _ => q - (intOf i).toNat)
    case atStart => exact ⟨0, Nat.zero_le _, rfl, rfl, Sm.refl _⟩
    case round =>
      obtain ⟨k, hk, rfl, rfl, hs⟩ := hrel
      by_cases hlt : k < q
      · obtain ⟨B1, o1, x, rfl, hx, c1⟩ := hu.at_ (show k < _ by omega)
        obtain ⟨B2, o2, y, rfl, hy, c2⟩ := hv.at_ (show k < _ by omega)
        have hstep : Hid (ud (lg a) (lg b) (k + 1) = ux (ud (lg a) (lg b) k) (um x y)) := by
          show ud (lg a) (lg b) (k + 1) = _
          rw [ud_succ, lg_of hx, lg_of hy]
          rfl
        clear hx hy
        rw [← hs.cell] at c1 c2
        generalize ud (lg a) (lg b) k = s at *
        go_wp2_with fail
        go_quiet ((first | (go_at_call 24; exact mulU_q _ _ x y) | (go_at_call 33; exact addU_q _ _ s (um x y))))
        go_wp2_with fail
        go_round
        case rel => exact ⟨k + 1, by omega, by go_num, by rw [hstep.out], hs.trans (Sm.drewN _ _)⟩
        case measure => simp [intOf]; omega
      · have hkq : k = q := by omega
        subst hkq
        go_wp2_with fail
        go_ret
        exact ⟨rfl, hs⟩

/-- So many elements, row by row, are turned. -/
def partF (f g : Nat → Nat → UInt8) (i0 k0 i k : Nat) : UInt8 := if k < i0 ∨ (k = i0 ∧ i < k0) then f i k else g i k
theorem partF_step (F g : Nat → Nat → UInt8) (k q i j : Nat) : setF (partF F g k q) q k (F q k) i j = partF F g k (q + 1) i j := by
  unfold setF partF
  by_cases h1 : i = q ∧ j = k
  · obtain ⟨rfl, rfl⟩ := h1
    rw [if_pos ⟨rfl, rfl⟩, if_pos (by omega)]
  · rw [if_neg h1]
    by_cases h2 : j < k ∨ (j = k ∧ i < q)
    · rw [if_pos h2, if_pos (by omega)]
    · rw [if_neg h2, if_neg (by omega)]

set_option maxHeartbeats 1000000 in
theorem turned_any {w : World} {m : MB} {r c : Nat} {f : Nat → Nat → UInt8} (h : MatAt w m r c f) : Calls Try.prog 40 #[m.ptr] w (PtrPost w c r (turnF f)) := by
  have hr1 := h.r1
  have hr2 := h.r2
  have hc1 := h.c1
  have hc2 := h.c2
  go_enter Try.func40, Try.ntmps40
  go_wp2_with fail
  refine (size_any h).mono ?_
  rintro e w1 ⟨rfl, hs⟩
  go_wp2_with fail
  refine (new_yes c r w1 hc1 hc2 hr1 hr2).mono ?_
  rintro e w2 ⟨m2, rfl, hM2, hg2, hb2, hk2⟩
  have h2 := (h.sm hs).no hk2
  rw [hs.size] at hg2 hb2
  have hlt := h.lt
  have hkp : Kp No w w2 := hs.kp.trans' hk2
  go_wp2_with fail
  go_loopw [24] (fun i wr => ∃ k : Nat, k ≤ r ∧ i = .int .i64 (k : Int) ∧ MatAt wr m2 c r (partF (turnF f) (fun _ _ => 0) k 0) ∧ MatAt wr m r c f ∧ Kp No w wr) (fun i _ => r - (intOf i).toNat)
  case atStart => exact ⟨0, Nat.zero_le _, rfl, hM2.eqF (fun i k _ _ => by simp [partF]), h2, hkp⟩
  case round =>
    obtain ⟨k, hk, rfl, hM, hm, hkw⟩ := hrel
    by_cases hlk : k < r
    · go_wp2_with fail
      refine (row_any hm k hlk).mono ?_
      rintro e w3 ⟨o, cp, rfl, ho, hcp, hs3⟩
      have HO := hide ho
      clear ho
      have hM3 := hM.sm hs3
      have hm3 := hm.sm hs3
      have hkw3 : Kp No w w3 := hkw.trans' hs3.kp
      go_wp2_with fail
      go_loopw [31] (fun i wr => ∃ q : Nat, q ≤ c ∧ i = .int .i64 (q : Int) ∧ MatAt wr m2 c r (partF (turnF f) (fun _ _ => 0) k q) ∧ MatAt wr m r c f ∧ Kp No w wr) (fun i _ => c - (intOf i).toNat)
      case atStart => exact ⟨0, Nat.zero_le _, rfl, hM3, hm3, hkw3⟩
      case round =>
        obtain ⟨q, hq, rfl, hM4, hm4, hkw4⟩ := hrel
        by_cases hlq : q < c
        · have hx := hm4.cell (o := o + q) hlk hlq (by have := HO.out; omega)
          go_wp2_with fail
          refine (row_any hM4 q hlq).mono ?_
          rintro e w5 ⟨o5, cp5, rfl, ho5, hcp5, hs5⟩
          have HO5 := hide ho5
          clear ho5
          have hM5 := hM4.sm hs5
          have hf := hM5.frozen (o5 + k)
          have hx5 := hM5.cell (o := o5 + k) hlq hlk (by have := HO5.out; omega)
          go_wp2_with fail
          go_round
          case rel =>
            refine ⟨q + 1, by omega, by go_num, (hM5.set hlq hlk (by have := HO5.out; omega) (f k q) _ rfl).eqF fun i j hi hj => ?_, (hm4.sm hs5).keep (kp_set1 _ _ _ _) (fun e => ?_) (fun e => ?_), (hkw4.trans' hs5.kp).trans (kp_set (.inr hb2) _ _)⟩
            · exact partF_step (turnF f) _ k q i j
            · omega
            · omega
          case measure => simp [intOf]; omega
        · have hqc : q = c := by omega
          subst hqc
          go_wp2_with fail
          go_round
          case rel => exact ⟨k + 1, by omega, by go_num, hM4.eqF fun i j hi hj => by unfold partF; split <;> split <;> first | rfl | omega, hm4, hkw4⟩
          case measure => simp [intOf]; omega
    · have hkr : k = r := by omega
      subst hkr
      go_wp2_with fail
      go_ret
      exact ⟨m2, rfl, hM.eqF fun i j hi hj => by unfold partF; rw [if_pos (.inl hj)], hg2, hb2, hkw⟩
theorem turned_nil (w : World) : Calls Try.prog 40 #[.pointer none] w fun e w' => e = .returned (.pointer none) ∧ Kp No w w' := by
  go_enter Try.func40, Try.ntmps40
  go_wp2_with fail
  refine (size_nil w).mono ?_
  rintro e w1 ⟨rfl, rfl⟩
  go_wp2_with fail
  refine (new_no 0 0 w (by omega)).mono ?_
  rintro e w2 ⟨rfl, hk⟩
  go_wp2_with fail
  go_ret
  exact ⟨rfl, hk⟩
end Go.Proofs.Ytllcmblkjcppnaa
