/- VandThrough: what every polynomial comes to, and the one that goes through any points, or that there is none. -/
import Derived.Test.YtllcmblkjcppnaaVq
import Derived.Test.YtllcmblkjcppnaaVt
import Derived.Test.YtllcmblkjcppnaaVu
import Derived.Deep.RegionHeld3
namespace Go.Proofs.Ytllcmblkjcppnaa
open Go.RowKit
set_option linter.unusedVariables false
set_option linter.unusedSimpArgs false

/-- The law's end. -/
def TBl (w : World) (e : Ending) (w1 : World) : Prop := e = .returned (.bool true) ∧ Below w.heap.size w w1
section
variable {w : World} {A1 A2 A3 : Option Addr} {n1 n2 n3 p1 p2 p3 : Nat} {bs vs cs : List UInt8} {x : UInt8}
theorem thru_l1 (h : 100 < n1) : Calls Try.prog 5 #[.slice A1 n1 p1, .slice A2 n2 p2, .slice A3 n3 p3, .int .u8 (x.toNat : Int)] w (TBl w) := by
  go_enter Try.func5, Try.ntmps5
  go_wp2_with fail
  refine (awake5_any _).mono ?_
  rintro e w9 ⟨rfl, k9⟩
  go_wp2_with fail
  go_ret
  exact ⟨rfl, k9.below0⟩
theorem thru_l2 (g1 : n1 ≤ 100) (h : 100 < n2) : Calls Try.prog 5 #[.slice A1 n1 p1, .slice A2 n2 p2, .slice A3 n3 p3, .int .u8 (x.toNat : Int)] w (TBl w) := by
  go_enter Try.func5, Try.ntmps5
  go_wp2_with fail
  refine (awake5_any _).mono ?_
  rintro e w9 ⟨rfl, k9⟩
  go_wp2_with fail
  go_ret
  exact ⟨rfl, k9.below0⟩
theorem thru_l3 (g1 : n1 ≤ 100) (g2 : n2 ≤ 100) (h : 100 < n3) : Calls Try.prog 5 #[.slice A1 n1 p1, .slice A2 n2 p2, .slice A3 n3 p3, .int .u8 (x.toNat : Int)] w (TBl w) := by
  go_enter Try.func5, Try.ntmps5
  go_wp2_with fail
  refine (awake5_any _).mono ?_
  rintro e w9 ⟨rfl, k9⟩
  go_wp2_with fail
  go_ret
  exact ⟨rfl, k9.below0⟩
set_option maxHeartbeats 8000000 in
set_option maxRecDepth 100000 in
theorem thru_b1 (h1 : Bts w (.slice A1 n1 p1) bs) (h2 : Bts w (.slice A2 n2 p2) vs) (h3 : Bts w (.slice A3 n3 p3) cs) (g1 : n1 ≤ 100) (g2 : n2 ≤ 100) (g3 : n3 ≤ 100) (hb : n1 < 1) : Calls Try.prog 5 #[.slice A1 n1 p1, .slice A2 n2 p2, .slice A3 n3 p3, .int .u8 (x.toNat : Int)] w (TBl w) := by
  have V1 := hide fun w' (hk : Kp No w w') => value_any (h3.no hk) (by omega) x
  have V2 := hide fun w' (hk : Kp No w w') => rvalue_any (h3.no hk) (by omega) x
  have HT := hide fun w' (hk : Kp No w w') => through_no (A' := A2) (n' := n2) (c' := p2) (h1.no hk) (by omega)
  go_enter Try.func5, Try.ntmps5
  go_wp2_with fail
  refine (V1.out _ (Kp.refl _ _)).mono ?_
  rintro e w1 ⟨rfl, s1⟩
  have k1 : Kp No w w1 := s1.kp
  go_wp2_with fail
  refine (V2.out _ k1).mono ?_
  rintro e w2 ⟨rfl, s2⟩
  have k2 := k1.trans' s2.kp
  go_wp2_with fail
  refine (HT.out _ k2).mono ?_
  rintro e w3 ⟨rfl, j3⟩
  have k3 := k2.trans' j3
  go_wp2_with fail
  refine (awake5_any _).mono ?_
  rintro e w9 ⟨rfl, k9⟩
  go_wp2_with fail
  go_ret
  exact ⟨rfl, (k3.trans' k9).below0⟩
set_option maxHeartbeats 8000000 in
set_option maxRecDepth 100000 in
theorem thru_b2 (h1 : Bts w (.slice A1 n1 p1) bs) (h2 : Bts w (.slice A2 n2 p2) vs) (h3 : Bts w (.slice A3 n3 p3) cs) (g1 : n1 ≤ 100) (g2 : n2 ≤ 100) (g3 : n3 ≤ 100) (hb1 : 1 ≤ n1) (hb : 64 < n1) : Calls Try.prog 5 #[.slice A1 n1 p1, .slice A2 n2 p2, .slice A3 n3 p3, .int .u8 (x.toNat : Int)] w (TBl w) := by
  have V1 := hide fun w' (hk : Kp No w w') => value_any (h3.no hk) (by omega) x
  have V2 := hide fun w' (hk : Kp No w w') => rvalue_any (h3.no hk) (by omega) x
  have HT := hide fun w' (hk : Kp No w w') => through_no (A' := A2) (n' := n2) (c' := p2) (h1.no hk) (by omega)
  go_enter Try.func5, Try.ntmps5
  go_wp2_with fail
  refine (V1.out _ (Kp.refl _ _)).mono ?_
  rintro e w1 ⟨rfl, s1⟩
  have k1 : Kp No w w1 := s1.kp
  go_wp2_with fail
  refine (V2.out _ k1).mono ?_
  rintro e w2 ⟨rfl, s2⟩
  have k2 := k1.trans' s2.kp
  go_wp2_with fail
  refine (HT.out _ k2).mono ?_
  rintro e w3 ⟨rfl, j3⟩
  have k3 := k2.trans' j3
  go_wp2_with fail
  refine (awake5_any _).mono ?_
  rintro e w9 ⟨rfl, k9⟩
  go_wp2_with fail
  go_ret
  exact ⟨rfl, (k3.trans' k9).below0⟩
set_option maxHeartbeats 8000000 in
set_option maxRecDepth 100000 in
theorem thru_b3 (h1 : Bts w (.slice A1 n1 p1) bs) (h2 : Bts w (.slice A2 n2 p2) vs) (h3 : Bts w (.slice A3 n3 p3) cs) (g1 : n1 ≤ 100) (g2 : n2 ≤ 100) (g3 : n3 ≤ 100) (hb1 : 1 ≤ n1) (hb2 : n1 ≤ 64) (hb : n2 ≠ n1) : Calls Try.prog 5 #[.slice A1 n1 p1, .slice A2 n2 p2, .slice A3 n3 p3, .int .u8 (x.toNat : Int)] w (TBl w) := by
  have V1 := hide fun w' (hk : Kp No w w') => value_any (h3.no hk) (by omega) x
  have V2 := hide fun w' (hk : Kp No w w') => rvalue_any (h3.no hk) (by omega) x
  have HT := hide fun w' (hk : Kp No w w') => through_no (A' := A2) (n' := n2) (c' := p2) (h1.no hk) (by omega)
  have t0 : ((n2 : Int) != (n1 : Int)) = true := by simp; omega
  clear hb
  go_enter Try.func5, Try.ntmps5
  go_wp2_with fail
  refine (V1.out _ (Kp.refl _ _)).mono ?_
  rintro e w1 ⟨rfl, s1⟩
  have k1 : Kp No w w1 := s1.kp
  go_wp2_with fail
  refine (V2.out _ k1).mono ?_
  rintro e w2 ⟨rfl, s2⟩
  have k2 := k1.trans' s2.kp
  go_wp2_with fail
  refine (HT.out _ k2).mono ?_
  rintro e w3 ⟨rfl, j3⟩
  have k3 := k2.trans' j3
  go_wp2_with fail
  refine (awake5_any _).mono ?_
  rintro e w9 ⟨rfl, k9⟩
  go_wp2_with fail
  go_ret
  exact ⟨rfl, (k3.trans' k9).below0⟩
set_option maxHeartbeats 8000000 in
set_option maxRecDepth 100000 in
theorem thru_b4 (h1 : Bts w (.slice A1 n1 p1) bs) (h2 : Bts w (.slice A2 n2 p2) vs) (h3 : Bts w (.slice A3 n3 p3) cs) (g1 : n1 ≤ 100) (g2 : n2 ≤ 100) (g3 : n3 ≤ 100) (hb1 : 1 ≤ n1) (hb2 : n1 ≤ 64) (hb3 : n2 = n1) (hU : ¬ Uq n1 (lg bs)) : Calls Try.prog 5 #[.slice A1 n1 p1, .slice A2 n2 p2, .slice A3 n3 p3, .int .u8 (x.toNat : Int)] w (TBl w) := by
  have V1 := hide fun w' (hk : Kp No w w') => value_any (h3.no hk) (by omega) x
  have V2 := hide fun w' (hk : Kp No w w') => rvalue_any (h3.no hk) (by omega) x
  have HT := hide fun w' (hk : Kp No w w') => through_no (A' := A2) (n' := n2) (c' := p2) (h1.no hk) fun hx => hU hx.2.2.2
  have HX := hide fun w' (hk : Kp No w w') => twice_yes (h1.no hk) (by omega) hU
  clear hU
  subst hb3
  go_enter Try.func5, Try.ntmps5
  go_wp2_with fail
  refine (V1.out _ (Kp.refl _ _)).mono ?_
  rintro e w1 ⟨rfl, s1⟩
  have k1 : Kp No w w1 := s1.kp
  go_wp2_with fail
  refine (V2.out _ k1).mono ?_
  rintro e w2 ⟨rfl, s2⟩
  have k2 := k1.trans' s2.kp
  go_wp2_with fail
  refine (HT.out _ k2).mono ?_
  rintro e w3 ⟨rfl, j3⟩
  have k3 := k2.trans' j3
  go_wp2_with fail
  refine (HX.out _ k3).mono ?_
  rintro e w4 ⟨rfl, s4⟩
  have k3 := k3.trans' s4.kp
  go_wp2_with fail
  refine (awake5_any _).mono ?_
  rintro e w9 ⟨rfl, k9⟩
  go_wp2_with fail
  go_ret
  exact ⟨rfl, (k3.trans' k9).below0⟩
set_option maxHeartbeats 8000000 in
set_option maxRecDepth 100000 in
theorem thru_good (h1 : Bts w (.slice A1 n1 p1) bs) (h2 : Bts w (.slice A2 n1 p2) vs) (h3 : Bts w (.slice A3 n3 p3) cs) (g1 : n1 ≤ 100) (g2 : n1 ≤ 100) (g3 : n3 ≤ 100) (hb1 : 1 ≤ n1) (hb2 : n1 ≤ 64) (hU : Uq n1 (lg bs)) : Calls Try.prog 5 #[.slice A1 n1 p1, .slice A2 n1 p2, .slice A3 n3 p3, .int .u8 (x.toNat : Int)] w (TBl w) := by
  have V1 := hide fun w' (hk : Kp No w w') => value_any (h3.no hk) (by omega) x
  have V2 := hide fun w' (hk : Kp No w w') => rvalue_any (h3.no hk) (by omega) x
  have HT := hide fun w' (hk : Kp No w w') => through_yes (h1.no hk) (h2.no hk) hb1 hb2 hU
  have HX := hide fun w' (hk : Kp No w w') => twice_no (h1.no hk) (by omega) hU
  have HR := hide fun w' (hk : Kp No w w') => rthrough_any (h1.no hk) (h2.no hk) hb1 hb2 hU
  have HV : Hid (∀ j, j < n1 → pv (nF n1 (lg bs) (lg vs) n1) (lg bs j) n1 = lg vs j) := fun j hj => nF_at hU n1 (Nat.le_refl _) j hj
  obtain ⟨t, ht⟩ : ∃ t, t = strOf (rowL n1 (nF n1 (lg bs) (lg vs) n1)) := ⟨_, rfl⟩
  have HTT := hide ht
  clear hU ht
  go_enter Try.func5, Try.ntmps5
  go_wp2_with fail
  refine (V1.out _ (Kp.refl _ _)).mono ?_
  rintro e w1 ⟨rfl, s1⟩
  have k1 : Kp No w w1 := s1.kp
  go_wp2_with fail
  refine (V2.out _ k1).mono ?_
  rintro e w2 ⟨rfl, s2⟩
  have k2 := k1.trans' s2.kp
  go_wp2_with fail
  refine (HT.out _ k2).mono ?_
  rintro e w3 ⟨A9, m9, c9, rfl, o3, j3⟩
  have k3 := k2.trans' j3
  obtain rfl : n1 = m9 := by rw [o3.len, rowL_len]
  go_wp2_with fail
  refine (HX.out _ k3).mono ?_
  rintro e w4 ⟨rfl, s4⟩
  have k4 := k3.trans' s4.kp
  have o4 := o3.no s4.kp
  have hm91 : n1 ≤ 1000 := by omega
  clear HX HT V1 V2 o3
  go_wp2_with fail
  go_loopw [11] (fun i wr => ∃ k : Nat, k ≤ n1 ∧ i = .int .i64 (k : Int) ∧ Sm w4 wr) (fun i _ => n1 - (intOf i).toNat)
  case atStart => exact ⟨0, Nat.zero_le _, rfl, Sm.refl _⟩
  case round =>
    obtain ⟨k, hk, rfl, hs⟩ := hrel
    have hkw := k4.trans' hs.kp
    by_cases hlt : k < n1
    · obtain ⟨B1, o1, y, rfl, hy, z1⟩ := (h1.no hkw).at_ hlt
      obtain ⟨B2, o2, u, rfl, hu, z2⟩ := (h2.no hkw).at_ hlt
      have hvq : ∀ q, Calls Try.prog 17 #[.slice A9 n1 c9, .int .u8 (y.toNat : Int)] (wr.drewN q) fun e w'' => e = .returned (.int .u8 (u.toNat : Int)) ∧ ∃ k, w'' = wr.drewN k := fun q => by
        have h8 := rvalue_any (((o4.no hs.kp).no (Sm.drewN wr q).kp).bts) hm91 y
        have h9 : pv (lg (rowL n1 (nF n1 (lg bs) (lg vs) n1))) y n1 = u := by
          rw [pv_congr (d := nF n1 (lg bs) (lg vs) n1) fun j hj => lg_rowL _ hj, ← lg_of hy, HV.out k hlt, lg_of hu]
        rw [h9] at h8
        exact Calls.quiet_of h8
      clear hy hu
      go_wp2_with fail
      go_quiet ((go_at_call 17; exact hvq _))
      go_wp2_with fail
      go_round
      case rel => exact ⟨k + 1, by omega, by go_num, hs.trans (Sm.drewN _ _)⟩
      case measure => simp [intOf]; omega
    · obtain rfl : k = n1 := by omega
      have hod := (o4.no hs.kp).drew
      have hkd : Kp No w wr.drew := hkw.drew
      have vd := conv_bts hod.bts
      rw [← HTT.out] at vd
      go_wp2_with fail
      refine wp_region_noPanic ?_
      refine wp_region_held_drew (S := fun w' => (convert 22 9 (.slice A9 k c9)).run Try.prog w' = .ok (.string t) w') (by kernel_rfl) (vd) (fun hHeld => ?_)
      generalize hgen : wr.drew = wd at *
      clear hgen
      refine wpAnyH_take (i := 0) (v := ?vvx1) (oi := ?ovx1) ?hvx1 (by kernel_rfl) (by kernel_rfl) (by kernel_rfl) (fun _ _ _ h => h) (Or.inl ⟨?wvx1, ?yvx1⟩) hHeld ?rvx1
      case hvx1 => simp only [List.getElem?_toArray, List.getElem?_cons_zero, List.getElem?_cons_succ]; rfl
      case wvx1 => rfl
      case yvx1 => intro w hSw; (try dsimp only at hSw); go_simp; (try with_reducible rfl)
      simp only [Act.put, List.setIfInBounds_toArray, List.set_cons_zero, List.set_cons_succ]
      refine wpAnyH_take (i := 1) (v := ?vvx2) (oi := ?ovx2) ?hvx2 (by kernel_rfl) (by kernel_rfl) (by kernel_rfl) (fun _ _ _ h => h) (Or.inl ⟨?wvx2, ?yvx2⟩) hHeld ?rvx2
      case hvx2 => simp only [List.getElem?_toArray, List.getElem?_cons_zero, List.getElem?_cons_succ]; rfl
      case wvx2 => rfl
      case yvx2 => intro w hSw; (try dsimp only at hSw); go_simp; (try with_reducible rfl)
      simp only [Act.put, List.setIfInBounds_toArray, List.set_cons_zero, List.set_cons_succ]
      refine wpAnyH_take (i := 2) (v := ?vvx3) (oi := ?ovx3) ?hvx3 (by kernel_rfl) (by kernel_rfl) (by kernel_rfl) (fun _ _ _ h => h) (Or.inl ⟨?wvx3, ?yvx3⟩) hHeld ?rvx3
      case hvx3 => simp only [List.getElem?_toArray, List.getElem?_cons_zero, List.getElem?_cons_succ]; rfl
      case wvx3 => rfl
      case yvx3 => intro w hSw; (try dsimp only at hSw); go_simp; (try with_reducible rfl)
      simp only [Act.put, List.setIfInBounds_toArray, List.set_cons_zero, List.set_cons_succ]
      refine wpAnyH_take (i := 3) (v := ?vvx4) (oi := ?ovx4) ?hvx4 (by kernel_rfl) (by kernel_rfl) (by kernel_rfl) (fun _ _ _ h => h) (Or.inl ⟨?wvx4, ?yvx4⟩) hHeld ?rvx4
      case hvx4 => simp only [List.getElem?_toArray, List.getElem?_cons_zero, List.getElem?_cons_succ]; rfl
      case wvx4 => rfl
      case yvx4 => intro w hSw; (try dsimp only at hSw); go_simp; (try with_reducible rfl)
      simp only [Act.put, List.setIfInBounds_toArray, List.set_cons_zero, List.set_cons_succ]
      refine wpAnyH_ready (rs := [4]) (by kernel_rfl) (by simp) ?_
      refine AllReadyH.cons (o := ?ovx5) ?hvx5 (fun K hK => ?svx5) AllReadyH.nil
      case hvx5 => simp only [List.getElem?_toArray, List.getElem?_cons_zero, List.getElem?_cons_succ]; rfl
      go_simp
      refine (HR.out _ hkd).mono ?_
      rintro e w6 ⟨A6, m6, c6, rfl, o6, k6⟩
      have v6 := conv_bts o6.bts
      rw [← HTT.out] at v6
      have vd6 := conv_bts (hod.no k6).bts
      rw [← HTT.out] at vd6
      go_wp2_with fail
      refine hK.out _ _ (vd6) (fun hHeld => ?_)
      clear hK K
      try simp only [Act.put, List.setIfInBounds_toArray, List.set_cons_zero, List.set_cons_succ]
      refine wpAnyH_ready (rs := [5]) (by kernel_rfl) (by simp) ?_
      refine AllReadyH.cons (o := ?ovx6) ?hvx6 (fun K hK => ?svx6) AllReadyH.nil
      case hvx6 => simp only [List.getElem?_toArray, List.getElem?_cons_zero, List.getElem?_cons_succ]; rfl
      go_simp
      refine hK.out _ _ (vd6) (fun hHeld => ?_)
      clear hK K
      try simp only [Act.put, List.setIfInBounds_toArray, List.set_cons_zero, List.set_cons_succ]
      refine wpAnyH_take (i := 6) (v := ?vvx7) (oi := ?ovx7) ?hvx7 (by kernel_rfl) (by kernel_rfl) (by kernel_rfl) (fun _ _ _ h => h) (Or.inl ⟨?wvx7, ?yvx7⟩) hHeld ?rvx7
      case hvx7 => simp only [List.getElem?_toArray, List.getElem?_cons_zero, List.getElem?_cons_succ]; rfl
      case wvx7 => rfl
      case yvx7 => intro w hSw; (try dsimp only at hSw); go_simp; (try with_reducible rfl)
      simp only [Act.put, List.setIfInBounds_toArray, List.set_cons_zero, List.set_cons_succ]
      refine wpAnyH_take (i := 7) (v := ?vvx8) (oi := ?ovx8) ?hvx8 (by kernel_rfl) (by kernel_rfl) (by kernel_rfl) (fun _ _ _ h => h) (Or.inl ⟨?wvx8, ?yvx8⟩) hHeld ?rvx8
      case hvx8 => simp only [List.getElem?_toArray, List.getElem?_cons_zero, List.getElem?_cons_succ]; rfl
      case wvx8 => rfl
      case yvx8 => intro w hSw; (try dsimp only at hSw); go_simp; (try with_reducible rfl)
      simp only [Act.put, List.setIfInBounds_toArray, List.set_cons_zero, List.set_cons_succ]
      refine wpAnyH_take (i := 8) (v := ?vvx9) (oi := ?ovx9) ?hvx9 (by kernel_rfl) (by kernel_rfl) (by kernel_rfl) (fun _ _ _ h => h) (Or.inl ⟨?wvx9, ?yvx9⟩) hHeld ?rvx9
      case hvx9 => simp only [List.getElem?_toArray, List.getElem?_cons_zero, List.getElem?_cons_succ]; rfl
      case wvx9 => rfl
      case yvx9 => intro w hSw; (try dsimp only at hSw); go_simp; (try with_reducible rfl)
      simp only [Act.put, List.setIfInBounds_toArray, List.set_cons_zero, List.set_cons_succ]
      refine wpAnyH_take (i := 9) (v := ?vvx10) (oi := ?ovx10) ?hvx10 (by kernel_rfl) (by kernel_rfl) (by kernel_rfl) (fun _ _ _ h => h) (Or.inl ⟨?wvx10, ?yvx10⟩) hHeld ?rvx10
      case hvx10 => simp only [List.getElem?_toArray, List.getElem?_cons_zero, List.getElem?_cons_succ]; rfl
      case wvx10 => rfl
      case yvx10 => intro w hSw; (try dsimp only at hSw); go_simp; (try with_reducible rfl)
      simp only [Act.put, List.setIfInBounds_toArray, List.set_cons_zero, List.set_cons_succ]
      refine wpAnyH_take (i := 10) (v := ?vvx11) (oi := ?ovx11) ?hvx11 (by kernel_rfl) (by kernel_rfl) (by kernel_rfl) (fun _ _ _ h => h) (Or.inl ⟨?wvx11, ?yvx11⟩) hHeld ?rvx11
      case hvx11 => simp only [List.getElem?_toArray, List.getElem?_cons_zero, List.getElem?_cons_succ]; rfl
      case wvx11 => rfl
      case yvx11 => intro w hSw; (try dsimp only at hSw); go_simp; (try with_reducible rfl)
      simp only [Act.put, List.setIfInBounds_toArray, List.set_cons_zero, List.set_cons_succ]
      refine wpAnyH_take (i := 11) (v := ?vvx12) (oi := ?ovx12) ?hvx12 (by kernel_rfl) (by kernel_rfl) (by kernel_rfl) (fun _ _ _ h => h) (Or.inl ⟨?wvx12, ?yvx12⟩) hHeld ?rvx12
      case hvx12 => simp only [List.getElem?_toArray, List.getElem?_cons_zero, List.getElem?_cons_succ]; rfl
      case wvx12 => rfl
      case yvx12 => intro w hSw; (try dsimp only at hSw); go_simp; (try with_reducible rfl)
      simp only [Act.put, List.setIfInBounds_toArray, List.set_cons_zero, List.set_cons_succ]
      refine wpAnyH_ready (rs := [12]) (by kernel_rfl) (by simp) ?_
      refine AllReadyH.cons (o := ?ovx13) ?hvx13 (fun K hK => ?svx13) AllReadyH.nil
      case hvx13 => simp only [List.getElem?_toArray, List.getElem?_cons_zero, List.getElem?_cons_succ]; rfl
      go_simp
      refine (awake5_any _).mono ?_
      rintro e w7 ⟨rfl, k7⟩
      have vd7 := conv_bts ((hod.no k6).no k7).bts
      rw [← HTT.out] at vd7
      go_wp2_with fail
      refine hK.out _ _ (vd7) (fun hHeld => ?_)
      clear hK K
      try simp only [Act.put, List.setIfInBounds_toArray, List.set_cons_zero, List.set_cons_succ]
      refine wpAnyH_take (i := 13) (v := ?vvx14) (oi := ?ovx14) ?hvx14 (by kernel_rfl) (by kernel_rfl) (by kernel_rfl) (fun _ _ _ h => h) (Or.inl ⟨?wvx14, ?yvx14⟩) hHeld ?rvx14
      case hvx14 => simp only [List.getElem?_toArray, List.getElem?_cons_zero, List.getElem?_cons_succ]; rfl
      case wvx14 => rfl
      case yvx14 => intro w hSw; (try dsimp only at hSw); go_simp; (try with_reducible rfl)
      simp only [Act.put, List.setIfInBounds_toArray, List.set_cons_zero, List.set_cons_succ]
      refine wpAnyH_take (i := 14) (v := ?vvx15) (oi := ?ovx15) ?hvx15 (by kernel_rfl) (by kernel_rfl) (by kernel_rfl) (fun _ _ _ h => h) (Or.inl ⟨?wvx15, ?yvx15⟩) hHeld ?rvx15
      case hvx15 => simp only [List.getElem?_toArray, List.getElem?_cons_zero, List.getElem?_cons_succ]; rfl
      case wvx15 => rfl
      case yvx15 => intro w hSw; (try dsimp only at hSw); go_simp; (try with_reducible rfl)
      simp only [Act.put, List.setIfInBounds_toArray, List.set_cons_zero, List.set_cons_succ]
      refine wpAnyH_done (by kernel_rfl) ?_ _
      refine NoPanic.normal ?_
      go_wp2_with fail
      go_ret
      exact ⟨rfl, (((hkd.trans' k6).trans' k7)).below0⟩

theorem vandthrough_walk (h1 : Bts w (.slice A1 n1 p1) bs) (h2 : Bts w (.slice A2 n2 p2) vs) (h3 : Bts w (.slice A3 n3 p3) cs) (a : Int) (ha : (Lit.int .u8 a).wf = true) : Calls Try.prog 5 #[.slice A1 n1 p1, .slice A2 n2 p2, .slice A3 n3 p3, .int .u8 a] w fun e w' => e = .returned (.bool true) ∧ Below w.heap.size w w' := by
  obtain ⟨a', rfl, ha'⟩ := of_wf_u8 ha
  obtain ⟨x, hx⟩ : ∃ x : UInt8, (a' : Int) = (x.toNat : Int) := ⟨UInt8.ofNat a', (ofNat_nat ha').symm⟩
  rw [hx]
  show Calls _ _ _ _ (TBl w)
  by_cases g1 : n1 ≤ 100
  · by_cases g2 : n2 ≤ 100
    · by_cases g3 : n3 ≤ 100
      · by_cases b1 : 1 ≤ n1
        · by_cases b2 : n1 ≤ 64
          · by_cases b3 : n2 = n1
            · by_cases hU : Uq n1 (lg bs)
              · subst b3
                exact thru_good h1 h2 h3 g1 g2 g3 b1 b2 hU
              · exact thru_b4 h1 h2 h3 g1 g2 g3 b1 b2 b3 hU
            · exact thru_b3 h1 h2 h3 g1 g2 g3 b1 b2 b3
          · exact thru_b2 h1 h2 h3 g1 g2 g3 b1 (by omega)
        · exact thru_b1 h1 h2 h3 g1 g2 g3 (by omega)
      · exact thru_l3 g1 g2 (by omega)
    · exact thru_l2 g1 (by omega)
  · exact thru_l1 (by omega)
end
end Go.Proofs.Ytllcmblkjcppnaa
