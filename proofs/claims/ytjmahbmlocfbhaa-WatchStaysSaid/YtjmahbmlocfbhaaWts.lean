/- WatchStays walked: it returns true for any numbers and any ticks. No condition. -/
import Derived.Test.YtjmahbmlocfbhaaWtd
namespace Go.Proofs.Ytjmahbmlocfbhaa
open Go.RowKit Go.WideShapes Go.ChangeShapes
set_option linter.unusedVariables false
set_option maxRecDepth 20000
set_option linter.unusedSimpArgs false

set_option maxHeartbeats 2000000 in
theorem watchstays_any (W : World) (a b : Nat) (ha : a < 256) (hb : b < 256) {A0 : Option Addr} {n0 c0 : Nat} {ts : List UInt8} (h0 : Bts W (.slice A0 n0 c0) ts) :
    Calls Try.prog 5 #[.int .u8 (a : Int), .int .u8 (b : Int), .slice A0 n0 c0] W (TruePost W) := by
  obtain ⟨N, hN⟩ : ∃ N, N = 2 + a := ⟨_, rfl⟩
  obtain ⟨M, hM⟩ : ∃ M, M = N + 1 + b := ⟨_, rfl⟩
  have e1 : (2 : Int) + (a : Int) = (N : Int) := by omega
  have e2 : (N : Int) + 1 + (b : Int) = (M : Int) := by omega
  have E1 := hide e1
  have E2 := hide e2
  have hN2 : 2 ≤ N := by omega
  have hN3 : N ≤ 300 := by omega
  have HR : Wt.Right ((2 : Nat) : Int) (N : Int) (M : Int) := by unfold Wt.Right; omega
  have HNEW : Hid (∀ w, Calls Try.prog 7 #[.int .i64 2, .int .i64 (N : Int), .int .i64 (M : Int)] w (WnPost w (Wt.new 2 N M))) := fun w => wnew_any w 2 N M HR
  have HFR : Hid ((Wt.new 2 N M).Fresh N) := ⟨rfl, rfl⟩
  have HB0 := hide h0
  clear hN hM e1 e2 HR h0
  go_enter Try.func5, Try.ntmps5
  go_wp2_with fail
  refine (awake17_any _).mono ?_
  rintro e w1 ⟨rfl, k1⟩
  have HK1 := hide k1
  clear k1
  go_upto_region 4 with fail
  rw [E1.out]
  go_wp2_with fail
  rw [E2.out]
  refine (HNEW.out _).mono ?_
  rintro e w2 ⟨g, rfl, h2, k2⟩
  have HK2 := hide (HK1.out.trans' k2)
  obtain ⟨F, HF, HW⟩ : ∃ F : Nat → Prop, Hid (∀ k, F k → W.heap.size ≤ k ∧ k < w2.heap.size) ∧ Hid (WtAt w2 F g (Wt.new 2 N M)) := ⟨_, fun k h => ⟨Nat.le_trans HK1.out.size h.1, h.2⟩, h2.lt⟩
  clear h2 k2 HNEW HK1
  go_wp2_with fail
  go_loopw [10] (fun i wr => ∃ (k : Nat) (T : Wt), k ≤ 60 ∧ k ≤ n0 ∧ i = .int .i64 (k : Int) ∧ WtAt wr F g T ∧ T.Fresh N ∧ T.now ≤ k * 300 ∧ T.ep ≤ 2 * k ∧ Kp No W wr ∧ w2.heap.size ≤ wr.heap.size) (fun i _ => 60 - (intOf i).toNat)
  case atStart => exact ⟨0, _, by omega, by omega, rfl, HW.out, HFR.out, Nat.zero_le _, Nat.zero_le _, HK2.out, Nat.le_refl _⟩
  case round =>
    obtain ⟨k, T, hk, hkn, rfl, hT, hfr, hnow, hep, hkw, hsz⟩ := hrel
    have hlast : Hid (T.st 1 = 0) := hfr.there hT.ok
    by_cases hlt : k < n0
    · by_cases hl6 : k < 60
      · obtain ⟨B1, o1, t, rfl, ht, c1⟩ := (HB0.out.no hkw).at_ hlt
        have htl := u8_lt t
        obtain ⟨d, hd⟩ : ∃ d : Nat, d = 1 + t.toNat % (N - 1) := ⟨_, rfl⟩
        have hdm : t.toNat % (N - 1) < N - 1 := Nat.mod_lt _ (by omega)
        have ed : (1 : Int) + (t.toNat : Int) % ((N : Int) - 1) = (d : Int) := by
          have h1 : ((N : Int) - 1) = ((N - 1 : Nat) : Int) := by omega
          rw [h1, hd, Int.natCast_add, Int.natCast_emod]
          rfl
        have hd1 : 1 ≤ d := by omega
        have hd2 : d < N := by omega
        have HTK := hide (hfr.tick hT.ok hd1 hd2 (by omega))
        have ED := hide ed
        have HT := hide hT
        have HKW := hide hkw
        have HSZ := hide hsz
        have hep2 : T.ep ≤ 1000000 := by omega
        clear hT hkw hsz hd hdm ed hfr ht
        have HTE := hide (T.tck_ep (d : Int))
        have HHE := hide ((T.tck (d : Int)).hrd_ep 1)
        go_wp2_with fail
        rw [ED.out, IntWalk.wrap64_in _ (by omega)]
        refine (wtick_any HT.out hep2 (fun q f => Nat.lt_of_lt_of_le (HF.out q f).2 HSZ.out) (d : Int)).mono ?_
        rintro e w3 ⟨rfl, h3, k3⟩
        have HT3 := hide h3
        have HK3 := hide (HKW.out.fr k3 fun q f => (HF.out q f).1)
        have HSZ3 : Hid (w2.heap.size ≤ w3.heap.size) := Nat.le_trans HSZ.out k3.size
        clear h3 k3
        go_wp2_with fail
        refine (wof_any HT3.out 1).mono ?_
        rintro e w4 ⟨rfl, k4⟩
        have e0 : (((T.tck (d : Int)).st 1 : Nat) : Int) = 0 := by rw [HTK.out.1]; rfl
        rw [e0]
        have HT4 := hide (HT3.out.no k4)
        have HK4 := hide (HK3.out.trans' k4)
        have HSZ4 : Hid (w2.heap.size ≤ w4.heap.size) := Nat.le_trans HSZ3.out k4.size
        clear k4 e0
        go_wp2_with fail
        refine (wheard_any HT4.out (by have := HTE.out; omega) (fun q f => Nat.lt_of_lt_of_le (HF.out q f).2 HSZ4.out) 1).mono ?_
        rintro e w5 ⟨rfl, h5, k5⟩
        have HT5 := hide h5
        have HK5 := hide (HK4.out.fr k5 fun q f => (HF.out q f).1)
        have HSZ5 : Hid (w2.heap.size ≤ w5.heap.size) := Nat.le_trans HSZ4.out k5.size
        clear h5 k5
        go_wp2_with fail
        go_round
        case rel => exact ⟨k + 1, _, by omega, by omega, by go_num, HT5.out, HTK.out.2.1, by rw [HTK.out.2.2]; omega, by have h1 := HTE.out; have h2 := HHE.out; omega, HK5.out, HSZ5.out⟩
        case measure => simp [intOf]; omega
      · obtain rfl : k = 60 := by omega
        have HT := hide hT
        have HKW := hide hkw
        clear hT hkw hfr
        go_wp2_with fail
        refine (wof_any HT.out 1).mono ?_
        rintro e w4 ⟨rfl, k4⟩
        have e0 : ((T.st 1 : Nat) : Int) = 0 := by rw [hlast.out]; rfl
        rw [e0]
        clear e0
        have HK4 := hide (HKW.out.trans' k4)
        clear k4
        go_wp2_with fail
        refine (awake17_any _).mono ?_
        rintro e w5 ⟨rfl, k5⟩
        go_wp2_with fail
        go_ret
        exact ⟨rfl, HK4.out.trans' k5⟩
    · obtain rfl : k = n0 := by omega
      have HT := hide hT
      have HKW := hide hkw
      clear hT hkw hfr
      go_wp2_with fail
      refine (wof_any HT.out 1).mono ?_
      rintro e w4 ⟨rfl, k4⟩
      have e0 : ((T.st 1 : Nat) : Int) = 0 := by rw [hlast.out]; rfl
      rw [e0]
      clear e0
      have HK4 := hide (HKW.out.trans' k4)
      clear k4
      go_wp2_with fail
      refine (awake17_any _).mono ?_
      rintro e w5 ⟨rfl, k5⟩
      go_wp2_with fail
      go_ret
      exact ⟨rfl, HK4.out.trans' k5⟩
theorem watchstays_walk (W : World) (a b : Int) (ha : (Lit.int .u8 a).wf = true) (hb : (Lit.int .u8 b).wf = true) {A0 : Option Addr} {n0 c0 : Nat} {ts : List UInt8} (h0 : Bts W (.slice A0 n0 c0) ts) :
    Calls Try.prog 5 #[.int .u8 a, .int .u8 b, .slice A0 n0 c0] W fun e W' => e = .returned (.bool true) ∧ Below W.heap.size W W' := by
  have h1 := bounds_u8 ha
  have h2 := bounds_u8 hb
  obtain ⟨x, rfl⟩ : ∃ x : Nat, a = x := ⟨a.toNat, by omega⟩
  obtain ⟨y, rfl⟩ : ∃ y : Nat, b = y := ⟨b.toNat, by omega⟩
  exact (watchstays_any W x y (by omega) (by omega) h0).mono fun e W' p => ⟨p.1, p.2.below0⟩
end Go.Proofs.Ytjmahbmlocfbhaa
