/- Package solve's clearColumn and reduce, each as a contract over memory. -/
import Derived.Test.YtbkelijmdpoanaaSp
namespace Go.Proofs.Ytbkelijmdpoanaa
open Go.RowKit
set_option linter.unusedVariables false
set_option maxRecDepth 20000

/-- Rows are written, all else is as it was. -/
def GrdPost (w : World) (base g n : Nat) (hv : Nat → Value) (L : Nat) (f : Nat → Nat → UInt8) (e : Ending) (w1 : World) : Prop := e = .returned (.tuple #[]) ∧ Grd w1 base g n hv (fun j => rowL L (f j)) ∧ Kp (fun q => base ≤ q) w w1
/-- The first q rows are cleared by row a. -/
def clcF (f : Nat → Nat → UInt8) (a k q o j : Nat) : UInt8 := if o < q ∧ o ≠ a then f o j ^^^ um (f o k) (f a j) else f o j
theorem rowL_congr {L : Nat} {s t : Nat → UInt8} (h : ∀ j, j < L → s j = t j) : rowL L s = rowL L t := List.map_congr_left fun k hk => h k (List.mem_range.1 hk)
theorem clcF_same {f : Nat → Nat → UInt8} {a k q : Nat} (h : q = a ∨ f q k = 0) (o j : Nat) : clcF f a k q o j = clcF f a k (q + 1) o j := by
  unfold clcF
  by_cases h1 : o < q ∧ o ≠ a
  · rw [if_pos h1, if_pos (by omega)]
  · rw [if_neg h1]
    by_cases h2 : o < q + 1 ∧ o ≠ a
    · obtain rfl : o = q := by omega
      rw [if_pos h2]
      rcases h with h | h
      · exact absurd h h2.2
      · rw [h, zero_um, ux_zero]
    · rw [if_neg h2]
theorem clcF_new {f : Nat → Nat → UInt8} {a k q : Nat} (h : q ≠ a) (j : Nat) : clcF f a k (q + 1) q j = ux (f q j) (um (f q k) (f a j)) := by
  unfold clcF
  rw [if_pos ⟨by omega, h⟩]
  rfl
theorem clcF_far {f : Nat → Nat → UInt8} {a k q o : Nat} (h : o ≠ q) (j : Nat) : clcF f a k q o j = clcF f a k (q + 1) o j := by
  unfold clcF
  by_cases h1 : o < q ∧ o ≠ a
  · rw [if_pos h1, if_pos (by omega)]
  · rw [if_neg h1, if_neg (by omega)]
theorem clcF_not {f : Nat → Nat → UInt8} {a k q o : Nat} (h : q ≤ o ∨ o = a) : clcF f a k q o = f o := by
  funext j
  unfold clcF
  rw [if_neg (by omega)]

set_option maxHeartbeats 2000000 in
theorem clear_any {w : World} {base g n L : Nat} {hv : Nat → Value} {f : Nat → Nat → UInt8} {cp : Nat} (h : Grd w base g n hv fun j => rowL L (f j)) (hI : InjV n hv) (hL : L ≤ 1000) (hn : n ≤ 1000) (a k : Nat) (ha : a < n) (hk : k < L) :
    Calls Try.prog 67 #[.slice (some ⟨g, 0, none⟩) n cp, .int .i64 (a : Int), .int .i64 (k : Int)] w (GrdPost w base g n hv L (clcF f a k n)) := by
  have HI := hide hI
  clear hI
  go_enter Try.func67, Try.ntmps67
  go_wp2_with fail
  go_loopw [10] (fun i wr => ∃ q : Nat, q ≤ n ∧ i = .int .i64 (q : Int) ∧ Grd wr base g n hv (fun j => rowL L (clcF f a k q j)) ∧ Kp (fun q => base ≤ q) w wr) (fun i _ => n - (intOf i).toNat)
  case atStart => exact ⟨0, Nat.zero_le _, rfl, h.eq fun j _ => by rw [clcF_not (.inl (Nat.zero_le _))], Kp.refl _ _⟩
  case round =>
    obtain ⟨q, hq, rfl, hG, hkw⟩ := hrel
    by_cases hlt : q < n
    · obtain ⟨b, c, e1, eb, hR, _, _⟩ := hG.at_ (by omega) hlt
      obtain ⟨b', c', e1', eb', hR', _, _⟩ := hG.at_ (by omega) ha
      have x1 := hG.out.cell hlt
      have x1' := hG.out.cell ha
      rw [e1] at x1
      rw [e1'] at x1'
      rw [clcF_not (.inl (Nat.le_refl q))] at hR
      rw [clcF_not (.inr rfl)] at hR'
      have x2 := hR.cell hk
      have E1 := hide e1
      have EB := hide eb
      have EB' := hide eb'
      clear e1 e1' eb eb'
      by_cases hqa : q = a
      · have HQ : Hid (q = a ∨ f q k = 0) := .inl hqa
        have t0 : ((q : Int) != (a : Int)) = false := by simp; omega
        clear hqa
        go_wp2_with fail
        go_round
        case rel => exact ⟨q + 1, by omega, by go_num, hG.eq fun j _ => rowL_congr fun i _ => clcF_same HQ.out j i, hkw⟩
        case measure => simp [intOf]; omega
      · have t0 : ((q : Int) != (a : Int)) = true := by simp; omega
        have hbb : b ≠ b' := fun e => hqa (HI.out q a hlt ha (by rw [EB.out, EB'.out, e]))
        have HB := hide hbb
        have HA := hide hqa
        clear hqa hbb
        by_cases h0 : f q k = 0
        · have HQ : Hid (q = a ∨ f q k = 0) := .inr h0
          have t1 := ux_eq0 h0
          clear h0
          go_wp2_with fail
          go_round
          case rel => exact ⟨q + 1, by omega, by go_num, hG.eq fun j _ => rowL_congr fun i _ => clcF_same HQ.out j i, hkw⟩
          case measure => simp [intOf]; omega
        · have t1 := ux_ne0 h0
          clear h0
          go_wp2_with fail
          refine wp_region_still_tail 9 (by kernel_rfl) (by kernel_rfl) ?_
          simp only [List.take_succ_cons, List.take_zero, List.drop_succ_cons, List.drop_zero]
          repeat still_step
          refine wpStill_nil ?_
          change wpList _ _ _ _ _ wr.drew
          generalize hgen : wr.drew = w2
          have hs2 : Sm wr w2 := ⟨1, hgen.symm⟩
          clear hgen
          have hG2 := hG.no hs2.kp
          go_wp2_with fail
          refine (addtimes_any (hR.no hs2.kp) (hR'.no hs2.kp) HB.out hL (f q k)).mono ?_
          rintro e w3 ⟨rfl, hR3, hk3⟩
          go_wp2_with fail
          go_round
          case rel =>
            refine ⟨q + 1, by omega, by go_num, ?_, (hkw.trans' hs2.kp).trans' (hk3.mono fun p hp => ?_)⟩
            · have hO : Own w3 base 5 (hv q) (rowL L fun j => ux (f q j) (um (f q k) (f a j))) := by rw [E1.out]; exact hR3
              refine (hG2.wrote HI.out hlt EB.out hO hk3).eq fun j _ => ?_
              by_cases e : j = q
              · rw [e, upd_at]
                exact rowL_congr fun i _ => (clcF_new HA.out i).symm
              · rw [upd_ne _ _ e]
                exact rowL_congr fun i _ => clcF_far e i
            · rw [hp]
              exact (hG.row q hlt).ge b EB.out
          case measure => simp [intOf]; omega
    · obtain rfl : q = n := by omega
      go_wp2_with fail
      go_end0
      exact ⟨rfl, hG, hkw⟩
end Go.Proofs.Ytbkelijmdpoanaa
