/- TapeKeeps walked: it returns true for any bytes and any numbers. No condition. -/
import Derived.Test.YtidmeibefndmgaaTpd
import Derived.Deep.RegionHeld3
import Derived.Deep.DeepCutAuto
import Derived.OpenShut
namespace Go.Proofs.Ytidmeibefndmgaa
open Go.RowKit Go.WideShapes Go.ChangeShapes
set_option linter.unusedVariables false
set_option maxRecDepth 20000
set_option linter.unusedSimpArgs false

theorem keeps_put (a : List UInt8) (h : a.length ≤ 500) : (Tp.new 1000).putE a = 0 ∧ (Tp.new 1000).put a = ⟨[], a, 1000⟩ := by
  have e : (Tp.new 1000).putE a = 0 := by
    unfold Tp.putE
    rw [if_neg]
    show ¬ 1000 < 0 + a.length
    omega
  refine ⟨e, ?_⟩
  unfold Tp.put
  rw [if_pos e]
  rfl
theorem keeps_put2 (a b : List UInt8) (h : a.length ≤ 500) (h2 : b.length ≤ 500) : (Tp.mk a [] 1000).putE b = 0 ∧ (Tp.mk a [] 1000).put b = ⟨a, b, 1000⟩ := by
  have e : (Tp.mk a [] 1000).putE b = 0 := by
    unfold Tp.putE
    rw [if_neg]
    show ¬ 1000 < a.length + 0 + b.length
    omega
  refine ⟨e, ?_⟩
  unfold Tp.put
  rw [if_pos e]
  rfl
set_option maxHeartbeats 4000000 in
theorem tapekeeps_any (W : World) {A0 A1 : Option Addr} {n0 c0 n1 c1 : Nat} {la lb : List UInt8} (h0 : Bts W (.slice A0 n0 c0) la) (h1 : Bts W (.slice A1 n1 c1) lb) (z : Int) (x : UInt8) :
    Calls Try.prog 4 #[.slice A0 n0 c0, .slice A1 n1 c1, .int .i64 z, .int .u8 (x.toNat : Int)] W (TruePost W) := by
  have HL0 := hide h0.len
  have HL1 := hide h1.len
  have H0 := hide h0
  have H1 := hide h1
  clear h0 h1
  by_cases hs : 500 < n0
  · go_enter Try.func4, Try.ntmps4
    go_wp2_with fail
    refine (awake13_any _).mono ?_
    rintro e w0 ⟨rfl, k0⟩
    go_wp2_with fail
    refine (awake13_any _).mono ?_
    rintro e w1 ⟨rfl, k1⟩
    go_wp2_with fail
    go_ret
    exact ⟨rfl, k0.trans' k1⟩
  by_cases hs1 : 500 < n1
  · go_enter Try.func4, Try.ntmps4
    go_wp2_with fail
    refine (awake13_any _).mono ?_
    rintro e w0 ⟨rfl, k0⟩
    go_wp2_with fail
    refine (awake13_any _).mono ?_
    rintro e w1 ⟨rfl, k1⟩
    go_wp2_with fail
    go_ret
    exact ⟨rfl, k0.trans' k1⟩
  have hla : la.length ≤ 500 := by have := HL0.out; omega
  have hlb : lb.length ≤ 500 := by have := HL1.out; omega
  have HP1 := hide (keeps_put la hla)
  have HP2 := hide (keeps_put2 la lb hla hlb)
  go_enter Try.func4, Try.ntmps4
  go_wp2_with fail
  refine (awake13_any _).mono ?_
  rintro e w0 ⟨rfl, k0⟩
  go_wp2_with fail
  refine (tnew_any w0 1000 (by omega)).mono ?_
  rintro e w1 ⟨g, rfl, hg, hT1, k1⟩
  have K1 : Kp No W w1 := k0.trans' k1
  have HT1 : Hid (TpAt w1 (Frm w0.heap.size) g (Tp.new 1000)) := hT1
  have HW := hide k0.size
  have HS1 := hide k1.size
  have HK1 := hide K1
  clear hg hT1 k0 k1 K1
  go_wp2_with fail
  refine (tput_any HT1.out (H0.out.no HK1.out) (by show 0 + la.length ≤ _; omega)).mono ?_
  rintro e w2 ⟨rfl, hT2, k2⟩
  rw [HP1.out.2] at hT2
  rw [HP1.out.1]
  have HT2 := hide (hT2.frm HS1.out)
  have HK2 := hide (HK1.out.fr k2 fun q hq => Nat.le_trans HW.out hq)
  have HS2 : Hid (w0.heap.size ≤ w2.heap.size) := Nat.le_trans HS1.out k2.size
  clear hT2 k2
  go_wp2_with fail
  refine (tsync_any HT2.out (by show 0 + la.length ≤ _; omega)).mono ?_
  rintro e w3 ⟨rfl, hT3, k3⟩
  have HT3 : Hid (TpAt w3 (Frm w0.heap.size) g ⟨la, [], 1000⟩) := hT3.frm HS2.out
  have HK3 := hide (HK2.out.fr k3 fun q hq => Nat.le_trans HW.out hq)
  have HS3 : Hid (w0.heap.size ≤ w3.heap.size) := Nat.le_trans HS2.out k3.size
  clear hT3 k3
  go_wp2_with fail
  refine (tput_any HT3.out (H1.out.no HK3.out) (by show la.length + 0 + lb.length ≤ _; omega)).mono ?_
  rintro e w4 ⟨rfl, hT4, k4⟩
  rw [HP2.out.2] at hT4
  rw [HP2.out.1]
  have HT4 := hide (hT4.frm HS3.out)
  have HK4 := hide (HK3.out.fr k4 fun q hq => Nat.le_trans HW.out hq)
  have HS4 : Hid (w0.heap.size ≤ w4.heap.size) := Nat.le_trans HS3.out k4.size
  clear hT4 k4
  obtain ⟨T, hT⟩ : ∃ T : Tp, T = ⟨la, lb, 1000⟩ := ⟨_, rfl⟩
  have HT : Hid (TpAt w4 (Frm w0.heap.size) g T) := by rw [hT]; exact HT4.out
  have HTL : Hid (T.len = n0 + n1) := by show _ = _; rw [hT]; show la.length + lb.length = _; have := HL0.out; have := HL1.out; omega
  have HTS : Hid (T.sf = la) := by show _ = _; rw [hT]
  have HTG : Hid (T.gone z + T.stay z = n1) := by show _ = _; have := T.stay_le z; have h2 : T.ls = lb := by rw [hT]
                                                  rw [h2] at this; unfold Tp.gone; rw [h2]; have := HL1.out; omega
  clear hT
  go_wp2_with fail
  refine (tcrash_any HT.out (by have := HTL.out; omega) z x).mono ?_
  rintro e w5 ⟨rfl, hT5, k5⟩
  obtain ⟨G, hG⟩ : ∃ G, G = T.gone z := ⟨_, rfl⟩
  rw [← hG]
  have HG := hide hG
  have HT5 := hide (hT5.frm HS4.out)
  have HK5 := hide (HK4.out.fr k5 fun q hq => Nat.le_trans HW.out hq)
  have HCL : Hid ((T.crash z x).len = n0 + T.stay z) := by show _ = _; rw [Tp.crash_len, HTS.out, ← HL0.out]
  obtain ⟨N, hN⟩ : ∃ N, N = (T.crash z x).len := ⟨_, rfl⟩
  have hN0 : n0 ≤ N := by rw [hN, HCL.out]; omega
  have hN9 : N ≤ 1000 := by rw [hN, HCL.out]; have := HTG.out; omega
  obtain ⟨M, hM⟩ : ∃ M, M = n0 + n1 := ⟨_, rfl⟩
  have hMM : (n0 : Int) + (n1 : Int) = (M : Int) := by omega
  have hM9 : M ≤ 1000 := by omega
  have hNG : (M : Int) - (G : Int) = (N : Int) := by rw [hM, hN, HCL.out, hG]; have := HTG.out; omega
  clear hM
  have hG9 : G ≤ 1000 := by rw [hG]; have := HTG.out; omega
  have HN := hide hN
  clear hT5 k5 hG hN
  go_wp2_with fail
  refine (tread_any HT5.out (by rw [← HN.out]; omega)).mono ?_
  rintro e w6 ⟨A6, n6, c6, rfl, ho6, k6⟩
  have hn6 : n6 = N := by rw [HN.out, ho6.len]; exact List.length_append
  subst hn6
  have hnc6 := ho6.cap
  have HO6 := hide ho6
  have HK6 := hide k6
  clear ho6 k6
  go_wp2_with fail
  refine (tlen_any (HT5.out.no HK6.out)).mono ?_
  rintro e w7 ⟨rfl, k7⟩
  have e1 : (T.crash z x).len = n6 := HN.out.symm
  have e2 : (T.crash z x).sf.length = n6 := by rw [← e1]; rfl
  rw [e1, e2]
  have HK7 := hide ((HK5.out.trans' HK6.out).trans' k7)
  have HO7 := hide (HO6.out.no k7)
  obtain ⟨tb, htb⟩ : ∃ t, t = strOf la := ⟨_, rfl⟩
  have hsl6 := (slice_u HO7.out.bts hnc6 n0 (n0 : Int) rfl hN0)
  have HSB : Hid (∀ w', Kp No w7 w' → (convert 26 9 (.slice A6 n0 c6)).run Try.prog w' = .ok (.string tb) w') := fun w' hk => by
    have h := conv_bts (hsl6.2.1.no hk)
    rw [htb]
    have e3 : ((T.crash z x).sf ++ (T.crash z x).ls).take n0 = la := by
      have h1 := T.left_safe z x
      rw [HTS.out, ← HL0.out] at h1
      show ((T.left z x) ++ []).take n0 = la
      rw [List.append_nil]
      exact h1
    rw [e3] at h
    exact h
  have HAB : Hid (∀ w', Kp No w7 w' → (convert 26 9 (.slice A0 n0 c0)).run Try.prog w' = .ok (.string tb) w') := fun w' hk => by
    rw [htb]
    exact conv_bts (H0.out.no (HK7.out.trans' hk))
  have hsr := hsl6.1
  have hnc : n0 ≤ c6 := by omega
  have hw1 : IntKind.i64.wrap (M : Int) = (M : Int) := IntWalk.i64_in _ (by omega)
  have hw2 : IntKind.i64.wrap (n6 : Int) = (n6 : Int) := IntWalk.i64_in _ (by omega)
  clear hsl6 htb e1 e2 k7
  go_wp2_with fail
  refine wp_region_noPanic ?_
  refine wp_region_held_drew (S := fun w' => Kp No w7 w') (by kernel_rfl) ((Kp.refl No w7).drew) (fun hHeld => ?_)
  refine wpAnyH_take (i := 0) (v := ?vkx1) (oi := ?okx1) ?hkx1 (by kernel_rfl) (by kernel_rfl) (by kernel_rfl) (fun _ _ _ h => h) (Or.inl ⟨?wkx1, ?ykx1⟩) hHeld ?rkx1
  case hkx1 => simp only [List.getElem?_toArray, List.getElem?_cons_zero, List.getElem?_cons_succ]; rfl
  case wkx1 => rfl
  case ykx1 => intro w hSw; (try dsimp only at hSw); go_simp; (try with_reducible rfl)
  simp only [Act.put, List.setIfInBounds_toArray, List.set_cons_zero, List.set_cons_succ]
  refine wpAnyH_take (i := 1) (v := ?vkx2) (oi := ?okx2) ?hkx2 (by kernel_rfl) (by kernel_rfl) (by kernel_rfl) (fun _ _ _ h => h) (Or.inl ⟨?wkx2, ?ykx2⟩) hHeld ?rkx2
  case hkx2 => simp only [List.getElem?_toArray, List.getElem?_cons_zero, List.getElem?_cons_succ]; rfl
  case wkx2 => rfl
  case ykx2 => intro w hSw; (try dsimp only at hSw); go_simp; (try with_reducible rfl)
  simp only [Act.put, List.setIfInBounds_toArray, List.set_cons_zero, List.set_cons_succ]
  refine wpAnyH_take (i := 2) (v := ?vkx3) (oi := ?okx3) ?hkx3 (by kernel_rfl) (by kernel_rfl) (by kernel_rfl) (fun _ _ _ h => h) (Or.inl ⟨?wkx3, ?ykx3⟩) hHeld ?rkx3
  case hkx3 => simp only [List.getElem?_toArray, List.getElem?_cons_zero, List.getElem?_cons_succ]; rfl
  case wkx3 => rfl
  case ykx3 => intro w hSw; (try dsimp only at hSw); go_simp; (try with_reducible rfl)
  simp only [Act.put, List.setIfInBounds_toArray, List.set_cons_zero, List.set_cons_succ]
  refine wpAnyH_take (i := 3) (v := ?vkx4) (oi := ?okx4) ?hkx4 (by kernel_rfl) (by kernel_rfl) (by kernel_rfl) (fun _ _ _ h => h) (Or.inl ⟨?wkx4, ?ykx4⟩) hHeld ?rkx4
  case hkx4 => simp only [List.getElem?_toArray, List.getElem?_cons_zero, List.getElem?_cons_succ]; rfl
  case wkx4 => rfl
  case ykx4 => intro w hSw; (try dsimp only at hSw); go_simp; (try with_reducible rfl)
  simp only [Act.put, List.setIfInBounds_toArray, List.set_cons_zero, List.set_cons_succ]
  refine wpAnyH_take (i := 4) (v := ?vkx5) (oi := ?okx5) ?hkx5 (by kernel_rfl) (by kernel_rfl) (by kernel_rfl) (fun _ _ _ h => h) (Or.inl ⟨?wkx5, ?ykx5⟩) hHeld ?rkx5
  case hkx5 => simp only [List.getElem?_toArray, List.getElem?_cons_zero, List.getElem?_cons_succ]; rfl
  case wkx5 => rfl
  case ykx5 => intro w hSw; (try dsimp only at hSw); go_simp; (try with_reducible rfl)
  simp only [Act.put, List.setIfInBounds_toArray, List.set_cons_zero, List.set_cons_succ]
  refine wpAnyH_take (i := 5) (v := ?vkx6) (oi := ?okx6) ?hkx6 (by kernel_rfl) (by kernel_rfl) (by kernel_rfl) (fun _ _ _ h => h) (Or.inl ⟨?wkx6, ?ykx6⟩) hHeld ?rkx6
  case hkx6 => simp only [List.getElem?_toArray, List.getElem?_cons_zero, List.getElem?_cons_succ]; rfl
  case wkx6 => rfl
  case ykx6 => intro w hSw; (try dsimp only at hSw); go_simp; (try with_reducible rfl)
  simp only [Act.put, List.setIfInBounds_toArray, List.set_cons_zero, List.set_cons_succ]
  refine wpAnyH_take (i := 6) (v := ?vkx7) (oi := ?okx7) ?hkx7 (by kernel_rfl) (by kernel_rfl) (by kernel_rfl) (fun _ _ _ h => h) (Or.inl ⟨?wkx7, ?ykx7⟩) hHeld ?rkx7
  case hkx7 => simp only [List.getElem?_toArray, List.getElem?_cons_zero, List.getElem?_cons_succ]; rfl
  case wkx7 => rfl
  case ykx7 => intro w hSw; (try dsimp only at hSw); go_simp; (try with_reducible rfl)
  simp only [Act.put, List.setIfInBounds_toArray, List.set_cons_zero, List.set_cons_succ]
  refine wpAnyH_take (i := 7) (v := ?vkx8) (oi := ?okx8) ?hkx8 (by kernel_rfl) (by kernel_rfl) (by kernel_rfl) (fun _ _ _ h => h) (Or.inl ⟨?wkx8, ?ykx8⟩) hHeld ?rkx8
  case hkx8 => simp only [List.getElem?_toArray, List.getElem?_cons_zero, List.getElem?_cons_succ]; rfl
  case wkx8 => rfl
  case ykx8 => intro w hSw; (try dsimp only at hSw); go_simp; (try with_reducible rfl)
  simp only [Act.put, List.setIfInBounds_toArray, List.set_cons_zero, List.set_cons_succ]
  refine wpAnyH_take (i := 8) (v := ?vkx9) (oi := ?okx9) ?hkx9 (by kernel_rfl) (by kernel_rfl) (by kernel_rfl) (fun _ _ _ h => h) (Or.inl ⟨?wkx9, ?ykx9⟩) hHeld ?rkx9
  case hkx9 => simp only [List.getElem?_toArray, List.getElem?_cons_zero, List.getElem?_cons_succ]; rfl
  case wkx9 => rfl
  case ykx9 => intro w hSw; (try dsimp only at hSw); go_simp; (try with_reducible rfl)
  simp only [Act.put, List.setIfInBounds_toArray, List.set_cons_zero, List.set_cons_succ]
  refine wpAnyH_take (i := 9) (v := ?vkx10) (oi := ?okx10) ?hkx10 (by kernel_rfl) (by kernel_rfl) (by kernel_rfl) (fun _ _ _ h => h) (Or.inl ⟨?wkx10, ?ykx10⟩) hHeld ?rkx10
  case hkx10 => simp only [List.getElem?_toArray, List.getElem?_cons_zero, List.getElem?_cons_succ]; rfl
  case wkx10 => rfl
  case ykx10 => intro w hSw; (try dsimp only at hSw); go_simp; (try with_reducible rfl)
  simp only [Act.put, List.setIfInBounds_toArray, List.set_cons_zero, List.set_cons_succ]
  refine wpAnyH_take (i := 10) (v := ?vkx11) (oi := ?okx11) ?hkx11 (by kernel_rfl) (by kernel_rfl) (by kernel_rfl) (fun _ _ _ h => h) (Or.inl ⟨?wkx11, ?ykx11⟩) hHeld ?rkx11
  case hkx11 => simp only [List.getElem?_toArray, List.getElem?_cons_zero, List.getElem?_cons_succ]; rfl
  case wkx11 => rfl
  case ykx11 => intro w hSw; (try dsimp only at hSw); go_simp; (try with_reducible rfl)
  simp only [Act.put, List.setIfInBounds_toArray, List.set_cons_zero, List.set_cons_succ]
  refine wpAnyH_take (i := 11) (v := ?vkx12) (oi := ?okx12) ?hkx12 (by kernel_rfl) (by kernel_rfl) (by kernel_rfl) (fun _ _ _ h => h) (Or.inl ⟨?wkx12, ?ykx12⟩) hHeld ?rkx12
  case hkx12 => simp only [List.getElem?_toArray, List.getElem?_cons_zero, List.getElem?_cons_succ]; rfl
  case wkx12 => rfl
  case ykx12 => intro w hSw; (try dsimp only at hSw); go_simp; (try with_reducible rfl)
  simp only [Act.put, List.setIfInBounds_toArray, List.set_cons_zero, List.set_cons_succ]
  refine wpAnyH_take (i := 12) (v := ?vkx13) (oi := ?okx13) ?hkx13 (by kernel_rfl) (by kernel_rfl) (by kernel_rfl) (fun _ _ _ h => h) (Or.inl ⟨?wkx13, ?ykx13⟩) hHeld ?rkx13
  case hkx13 => simp only [List.getElem?_toArray, List.getElem?_cons_zero, List.getElem?_cons_succ]; rfl
  case wkx13 => rfl
  case ykx13 => intro w hSw; (try dsimp only at hSw); go_simp; (try with_reducible rfl)
  simp only [Act.put, List.setIfInBounds_toArray, List.set_cons_zero, List.set_cons_succ]
  refine wpAnyH_take (i := 13) (v := ?vkx14) (oi := ?okx14) ?hkx14 (by kernel_rfl) (by kernel_rfl) (by kernel_rfl) (fun _ _ _ h => h) (Or.inl ⟨?wkx14, ?ykx14⟩) hHeld ?rkx14
  case hkx14 => simp only [List.getElem?_toArray, List.getElem?_cons_zero, List.getElem?_cons_succ]; rfl
  case wkx14 => rfl
  case ykx14 => intro w hSw; (try dsimp only at hSw); go_simp; (try with_reducible rfl)
  simp only [Act.put, List.setIfInBounds_toArray, List.set_cons_zero, List.set_cons_succ]
  refine wpAnyH_take (i := 14) (v := ?vkx15) (oi := ?okx15) ?hkx15 (by kernel_rfl) (by kernel_rfl) (by kernel_rfl) (fun _ _ _ h => h) (Or.inl ⟨?wkx15, ?ykx15⟩) hHeld ?rkx15
  case hkx15 => simp only [List.getElem?_toArray, List.getElem?_cons_zero, List.getElem?_cons_succ]; rfl
  case wkx15 => rfl
  case ykx15 => intro w hSw; (try dsimp only at hSw); go_simp; (try with_reducible rfl)
  simp only [Act.put, List.setIfInBounds_toArray, List.set_cons_zero, List.set_cons_succ]
  refine wpAnyH_take (i := 15) (v := ?vkx16) (oi := ?okx16) ?hkx16 (by kernel_rfl) (by kernel_rfl) (by kernel_rfl) (fun _ _ _ h => h) (Or.inl ⟨?wkx16, ?ykx16⟩) hHeld ?rkx16
  case hkx16 => simp only [List.getElem?_toArray, List.getElem?_cons_zero, List.getElem?_cons_succ]; rfl
  case wkx16 => rfl
  case ykx16 => intro w hSw; (try dsimp only at hSw); go_simp; (try with_reducible rfl)
  simp only [Act.put, List.setIfInBounds_toArray, List.set_cons_zero, List.set_cons_succ]
  refine wpAnyH_take (i := 16) (v := ?vkx17) (oi := ?okx17) ?hkx17 (by kernel_rfl) (by kernel_rfl) (by kernel_rfl) (fun _ _ _ h => h) (Or.inl ⟨?wkx17, ?ykx17⟩) hHeld ?rkx17
  case hkx17 => simp only [List.getElem?_toArray, List.getElem?_cons_zero, List.getElem?_cons_succ]; rfl
  case wkx17 => rfl
  case ykx17 => intro w hSw; (try dsimp only at hSw); go_simp; (try with_reducible rfl)
  simp only [Act.put, List.setIfInBounds_toArray, List.set_cons_zero, List.set_cons_succ]
  refine wpAnyH_take (i := 17) (v := ?vkx18) (oi := ?okx18) ?hkx18 (by kernel_rfl) (by kernel_rfl) (by kernel_rfl) (fun _ _ _ h => h) (Or.inl ⟨?wkx18, ?ykx18⟩) hHeld ?rkx18
  case hkx18 => simp only [List.getElem?_toArray, List.getElem?_cons_zero, List.getElem?_cons_succ]; rfl
  case wkx18 => rfl
  case ykx18 => intro w hSw; (try dsimp only at hSw); go_simp; (try with_reducible rfl)
  simp only [Act.put, List.setIfInBounds_toArray, List.set_cons_zero, List.set_cons_succ]
  refine wpAnyH_take (i := 18) (v := ?vkx19) (oi := ?okx19) ?hkx19 (by kernel_rfl) (by kernel_rfl) (by kernel_rfl) (fun _ _ _ h => h) (Or.inl ⟨?wkx19, ?ykx19⟩) hHeld ?rkx19
  case hkx19 => simp only [List.getElem?_toArray, List.getElem?_cons_zero, List.getElem?_cons_succ]; rfl
  case wkx19 => rfl
  case ykx19 => intro w hSw; (try dsimp only at hSw); go_simp; (try with_reducible rfl)
  simp only [Act.put, List.setIfInBounds_toArray, List.set_cons_zero, List.set_cons_succ]
  refine wpAnyH_take (i := 19) (v := ?vkx20) (oi := ?okx20) ?hkx20 (by kernel_rfl) (by kernel_rfl) (by kernel_rfl) (fun _ _ _ h => h) (Or.inl ⟨?wkx20, ?ykx20⟩) hHeld ?rkx20
  case hkx20 => simp only [List.getElem?_toArray, List.getElem?_cons_zero, List.getElem?_cons_succ]; rfl
  case wkx20 => rfl
  case ykx20 => intro w hSw; (try dsimp only at hSw); go_simp; (try with_reducible rfl)
  simp only [Act.put, List.setIfInBounds_toArray, List.set_cons_zero, List.set_cons_succ]
  refine wpAnyH_take (i := 20) (v := ?vkx21) (oi := ?okx21) ?hkx21 (by kernel_rfl) (by kernel_rfl) (by kernel_rfl) (fun _ _ _ h => h) (Or.inl ⟨?wkx21, ?ykx21⟩) hHeld ?rkx21
  case hkx21 => simp only [List.getElem?_toArray, List.getElem?_cons_zero, List.getElem?_cons_succ]; rfl
  case wkx21 => rfl
  case ykx21 => intro w hSw; (try dsimp only at hSw); go_simp; (try with_reducible rfl)
  simp only [Act.put, List.setIfInBounds_toArray, List.set_cons_zero, List.set_cons_succ]
  refine wpAnyH_take (i := 21) (v := ?vkx22) (oi := ?okx22) ?hkx22 (by kernel_rfl) (by kernel_rfl) (by kernel_rfl) (fun _ _ _ h => h) (Or.inl ⟨?wkx22, ?ykx22⟩) hHeld ?rkx22
  case hkx22 => simp only [List.getElem?_toArray, List.getElem?_cons_zero, List.getElem?_cons_succ]; rfl
  case wkx22 => rfl
  case ykx22 => intro w hSw; (try dsimp only at hSw); go_simp; (try with_reducible rfl)
  simp only [Act.put, List.setIfInBounds_toArray, List.set_cons_zero, List.set_cons_succ]
  refine wpAnyH_take (i := 22) (v := ?vkx23) (oi := ?okx23) ?hkx23 (by kernel_rfl) (by kernel_rfl) (by kernel_rfl) (fun _ _ _ h => h) (Or.inl ⟨?wkx23, ?ykx23⟩) hHeld ?rkx23
  case hkx23 => simp only [List.getElem?_toArray, List.getElem?_cons_zero, List.getElem?_cons_succ]; rfl
  case wkx23 => rfl
  case ykx23 => intro w hSw; (try dsimp only at hSw); go_simp; (try with_reducible rfl)
  simp only [Act.put, List.setIfInBounds_toArray, List.set_cons_zero, List.set_cons_succ]
  refine wpAnyH_take (i := 23) (v := ?vkx24) (oi := ?okx24) ?hkx24 (by kernel_rfl) (by kernel_rfl) (by kernel_rfl) (fun _ _ _ h => h) (Or.inl ⟨?wkx24, ?ykx24⟩) hHeld ?rkx24
  case hkx24 => simp only [List.getElem?_toArray, List.getElem?_cons_zero, List.getElem?_cons_succ]; rfl
  case wkx24 => rfl
  case ykx24 => intro w hSw; (try dsimp only at hSw); go_simp; (try with_reducible rfl)
  simp only [Act.put, List.setIfInBounds_toArray, List.set_cons_zero, List.set_cons_succ]
  refine wpAnyH_take (i := 24) (v := ?vkx25) (oi := ?okx25) ?hkx25 (by kernel_rfl) (by kernel_rfl) (by kernel_rfl) (fun _ _ _ h => h) (Or.inl ⟨?wkx25, ?ykx25⟩) hHeld ?rkx25
  case hkx25 => simp only [List.getElem?_toArray, List.getElem?_cons_zero, List.getElem?_cons_succ]; rfl
  case wkx25 => rfl
  case ykx25 => intro w hSw; (try dsimp only at hSw); go_simp; (try with_reducible rfl)
  simp only [Act.put, List.setIfInBounds_toArray, List.set_cons_zero, List.set_cons_succ]
  refine wpAnyH_take (i := 25) (v := ?vkx26) (oi := ?okx26) ?hkx26 (by kernel_rfl) (by kernel_rfl) (by kernel_rfl) (fun _ _ _ h => h) (Or.inl ⟨?wkx26, ?ykx26⟩) hHeld ?rkx26
  case hkx26 => simp only [List.getElem?_toArray, List.getElem?_cons_zero, List.getElem?_cons_succ]; rfl
  case wkx26 => rfl
  case ykx26 => intro w hSw; (try dsimp only at hSw); go_simp; (try with_reducible rfl)
  simp only [Act.put, List.setIfInBounds_toArray, List.set_cons_zero, List.set_cons_succ]
  refine wpAnyH_take (i := 26) (v := ?vkx27) (oi := ?okx27) ?hkx27 (by kernel_rfl) (by kernel_rfl) (by kernel_rfl) (fun _ _ _ h => h) (Or.inl ⟨?wkx27, ?ykx27⟩) hHeld ?rkx27
  case hkx27 => simp only [List.getElem?_toArray, List.getElem?_cons_zero, List.getElem?_cons_succ]; rfl
  case wkx27 => rfl
  case ykx27 => intro w hSw; (try dsimp only at hSw); go_simp; (try with_reducible rfl)
  simp only [Act.put, List.setIfInBounds_toArray, List.set_cons_zero, List.set_cons_succ]
  refine wpAnyH_take (i := 27) (v := ?vkx28) (oi := ?okx28) ?hkx28 (by kernel_rfl) (by kernel_rfl) (by kernel_rfl) (fun _ _ _ h => h) (Or.inl ⟨?wkx28, ?ykx28⟩) hHeld ?rkx28
  case hkx28 => simp only [List.getElem?_toArray, List.getElem?_cons_zero, List.getElem?_cons_succ]; rfl
  case wkx28 => rfl
  case ykx28 => intro w hSw; (try dsimp only at hSw); go_simp; (try with_reducible rfl)
  simp only [Act.put, List.setIfInBounds_toArray, List.set_cons_zero, List.set_cons_succ]
  refine wpAnyH_take (i := 28) (v := ?vkx29) (oi := ?okx29) ?hkx29 (by kernel_rfl) (by kernel_rfl) (by kernel_rfl) (fun _ _ _ h => h) (Or.inl ⟨?wkx29, ?ykx29⟩) hHeld ?rkx29
  case hkx29 => simp only [List.getElem?_toArray, List.getElem?_cons_zero, List.getElem?_cons_succ]; rfl
  case wkx29 => rfl
  case ykx29 => intro w hSw; (try dsimp only at hSw); go_simp; (try with_reducible rfl)
  simp only [Act.put, List.setIfInBounds_toArray, List.set_cons_zero, List.set_cons_succ]
  refine wpAnyH_take (i := 29) (v := ?vkx30) (oi := ?okx30) ?hkx30 (by kernel_rfl) (by kernel_rfl) (by kernel_rfl) (fun _ _ _ h => h) (Or.inl ⟨?wkx30, ?ykx30⟩) hHeld ?rkx30
  case hkx30 => simp only [List.getElem?_toArray, List.getElem?_cons_zero, List.getElem?_cons_succ]; rfl
  case wkx30 => rfl
  case ykx30 => intro w hSw; (try dsimp only at hSw); go_simp; (try with_reducible rfl)
  simp only [Act.put, List.setIfInBounds_toArray, List.set_cons_zero, List.set_cons_succ]
  refine wpAnyH_take (i := 30) (v := ?vkx31) (oi := ?okx31) ?hkx31 (by kernel_rfl) (by kernel_rfl) (by kernel_rfl) (fun _ _ _ h => h) (Or.inl ⟨?wkx31, ?ykx31⟩) hHeld ?rkx31
  case hkx31 => simp only [List.getElem?_toArray, List.getElem?_cons_zero, List.getElem?_cons_succ]; rfl
  case wkx31 => rfl
  case ykx31 => intro w hSw; (try dsimp only at hSw); go_simp; (try with_reducible rfl)
  simp only [Act.put, List.setIfInBounds_toArray, List.set_cons_zero, List.set_cons_succ]
  refine wpAnyH_take (i := 31) (v := ?vkx32) (oi := ?okx32) ?hkx32 (by kernel_rfl) (by kernel_rfl) (by kernel_rfl) (fun _ _ _ h => h) (Or.inl ⟨?wkx32, ?ykx32⟩) hHeld ?rkx32
  case hkx32 => simp only [List.getElem?_toArray, List.getElem?_cons_zero, List.getElem?_cons_succ]; rfl
  case wkx32 => rfl
  case ykx32 => intro w hSw; (try dsimp only at hSw); go_simp; (try with_reducible rfl)
  simp only [Act.put, List.setIfInBounds_toArray, List.set_cons_zero, List.set_cons_succ]
  refine wpAnyH_take (i := 32) (v := ?vkx33) (oi := ?okx33) ?hkx33 (by kernel_rfl) (by kernel_rfl) (by kernel_rfl) (fun _ _ _ h => h) (Or.inl ⟨?wkx33, ?ykx33⟩) hHeld ?rkx33
  case hkx33 => simp only [List.getElem?_toArray, List.getElem?_cons_zero, List.getElem?_cons_succ]; rfl
  case wkx33 => rfl
  case ykx33 => intro w hSw; (try dsimp only at hSw); go_simp; (try with_reducible rfl)
  simp only [Act.put, List.setIfInBounds_toArray, List.set_cons_zero, List.set_cons_succ]
  refine wpAnyH_take (i := 33) (v := ?vkx34) (oi := ?okx34) ?hkx34 (by kernel_rfl) (by kernel_rfl) (by kernel_rfl) (fun _ _ _ h => h) (Or.inl ⟨?wkx34, ?ykx34⟩) hHeld ?rkx34
  case hkx34 => simp only [List.getElem?_toArray, List.getElem?_cons_zero, List.getElem?_cons_succ]; rfl
  case wkx34 => rfl
  case ykx34 => intro w hSw; (try dsimp only at hSw); go_simp; (try with_reducible rfl)
  simp only [Act.put, List.setIfInBounds_toArray, List.set_cons_zero, List.set_cons_succ]
  refine wpAnyH_take (i := 34) (v := ?vkx35) (oi := ?okx35) ?hkx35 (by kernel_rfl) (by kernel_rfl) (by kernel_rfl) (fun _ _ _ h => h) (Or.inl ⟨?wkx35, ?ykx35⟩) hHeld ?rkx35
  case hkx35 => simp only [List.getElem?_toArray, List.getElem?_cons_zero, List.getElem?_cons_succ]; rfl
  case wkx35 => rfl
  case ykx35 => intro w hSw; (try dsimp only at hSw); go_simp; (try with_reducible rfl)
  simp only [Act.put, List.setIfInBounds_toArray, List.set_cons_zero, List.set_cons_succ]
  refine wpAnyH_take (i := 35) (v := ?vkx36) (oi := ?okx36) ?hkx36 (by kernel_rfl) (by kernel_rfl) (by kernel_rfl) (fun _ _ _ h => h) (Or.inl ⟨?wkx36, ?ykx36⟩) hHeld ?rkx36
  case hkx36 => simp only [List.getElem?_toArray, List.getElem?_cons_zero, List.getElem?_cons_succ]; rfl
  case wkx36 => rfl
  case ykx36 => intro w hSw; (try dsimp only at hSw); go_simp; (try with_reducible rfl)
  simp only [Act.put, List.setIfInBounds_toArray, List.set_cons_zero, List.set_cons_succ]
  refine wpAnyH_take (i := 36) (v := ?vkx37) (oi := ?okx37) ?hkx37 (by kernel_rfl) (by kernel_rfl) (by kernel_rfl) (fun _ _ _ h => h) (Or.inl ⟨?wkx37, ?ykx37⟩) hHeld ?rkx37
  case hkx37 => simp only [List.getElem?_toArray, List.getElem?_cons_zero, List.getElem?_cons_succ]; rfl
  case wkx37 => rfl
  case ykx37 => intro w hSw; (try dsimp only at hSw); go_simp; (try with_reducible rfl)
  simp only [Act.put, List.setIfInBounds_toArray, List.set_cons_zero, List.set_cons_succ]
  refine wpAnyH_take (i := 37) (v := ?vkx38) (oi := ?okx38) ?hkx38 (by kernel_rfl) (by kernel_rfl) (by kernel_rfl) (fun _ _ _ h => h) (Or.inl ⟨?wkx38, ?ykx38⟩) hHeld ?rkx38
  case hkx38 => simp only [List.getElem?_toArray, List.getElem?_cons_zero, List.getElem?_cons_succ]; rfl
  case wkx38 => rfl
  case ykx38 =>
    intro w hSw
    (try dsimp only at hSw)
    have v8 := HSB.out _ hSw
    go_simp
    (try with_reducible rfl)
  simp only [Act.put, List.setIfInBounds_toArray, List.set_cons_zero, List.set_cons_succ]
  refine wpAnyH_take (i := 38) (v := ?vkx39) (oi := ?okx39) ?hkx39 (by kernel_rfl) (by kernel_rfl) (by kernel_rfl) (fun _ _ _ h => h) (Or.inl ⟨?wkx39, ?ykx39⟩) hHeld ?rkx39
  case hkx39 => simp only [List.getElem?_toArray, List.getElem?_cons_zero, List.getElem?_cons_succ]; rfl
  case wkx39 => rfl
  case ykx39 => intro w hSw; (try dsimp only at hSw); go_simp; (try with_reducible rfl)
  simp only [Act.put, List.setIfInBounds_toArray, List.set_cons_zero, List.set_cons_succ]
  refine wpAnyH_take (i := 39) (v := ?vkx40) (oi := ?okx40) ?hkx40 (by kernel_rfl) (by kernel_rfl) (by kernel_rfl) (fun _ _ _ h => h) (Or.inl ⟨?wkx40, ?ykx40⟩) hHeld ?rkx40
  case hkx40 => simp only [List.getElem?_toArray, List.getElem?_cons_zero, List.getElem?_cons_succ]; rfl
  case wkx40 => rfl
  case ykx40 =>
    intro w hSw
    (try dsimp only at hSw)
    have v8 := HAB.out _ hSw
    go_simp
    (try with_reducible rfl)
  simp only [Act.put, List.setIfInBounds_toArray, List.set_cons_zero, List.set_cons_succ]
  refine wpAnyH_take (i := 40) (v := ?vkx41) (oi := ?okx41) ?hkx41 (by kernel_rfl) (by kernel_rfl) (by kernel_rfl) (fun _ _ _ h => h) (Or.inl ⟨?wkx41, ?ykx41⟩) hHeld ?rkx41
  case hkx41 => simp only [List.getElem?_toArray, List.getElem?_cons_zero, List.getElem?_cons_succ]; rfl
  case wkx41 => rfl
  case ykx41 => intro w hSw; (try dsimp only at hSw); go_simp; (try with_reducible rfl)
  simp only [Act.put, List.setIfInBounds_toArray, List.set_cons_zero, List.set_cons_succ]
  refine wpAnyH_take (i := 41) (v := ?vkx42) (oi := ?okx42) ?hkx42 (by kernel_rfl) (by kernel_rfl) (by kernel_rfl) (fun _ _ _ h => h) (Or.inl ⟨?wkx42, ?ykx42⟩) hHeld ?rkx42
  case hkx42 => simp only [List.getElem?_toArray, List.getElem?_cons_zero, List.getElem?_cons_succ]; rfl
  case wkx42 => rfl
  case ykx42 => intro w hSw; (try dsimp only at hSw); go_simp; (try with_reducible rfl)
  simp only [Act.put, List.setIfInBounds_toArray, List.set_cons_zero, List.set_cons_succ]
  refine wpAnyH_take (i := 42) (v := ?vkx43) (oi := ?okx43) ?hkx43 (by kernel_rfl) (by kernel_rfl) (by kernel_rfl) (fun _ _ _ h => h) (Or.inl ⟨?wkx43, ?ykx43⟩) hHeld ?rkx43
  case hkx43 => simp only [List.getElem?_toArray, List.getElem?_cons_zero, List.getElem?_cons_succ]; rfl
  case wkx43 => rfl
  case ykx43 => intro w hSw; (try dsimp only at hSw); go_simp; (try with_reducible rfl)
  simp only [Act.put, List.setIfInBounds_toArray, List.set_cons_zero, List.set_cons_succ]
  refine wpAnyH_ready (rs := [43]) (by kernel_rfl) (by simp) ?_
  refine AllReadyH.cons (o := ?okx44) ?hkx44 (fun K hK => ?skx44) AllReadyH.nil
  case hkx44 => simp only [List.getElem?_toArray, List.getElem?_cons_zero, List.getElem?_cons_succ]; rfl
  go_simp
  refine (awake13_any _).mono ?_
  rintro e w8 ⟨rfl, k8⟩
  have HK8 := hide (hHeld.trans' k8)
  go_wp2_with fail
  refine hK.out _ _ (HK8.out) (fun hHeld => ?_)
  clear hK K
  try simp only [Act.put, List.setIfInBounds_toArray, List.set_cons_zero, List.set_cons_succ]
  refine wpAnyH_take (i := 44) (v := ?vkx45) (oi := ?okx45) ?hkx45 (by kernel_rfl) (by kernel_rfl) (by kernel_rfl) (fun _ _ _ h => h) (Or.inl ⟨?wkx45, ?ykx45⟩) hHeld ?rkx45
  case hkx45 => simp only [List.getElem?_toArray, List.getElem?_cons_zero, List.getElem?_cons_succ]; rfl
  case wkx45 => rfl
  case ykx45 => intro w hSw; (try dsimp only at hSw); go_simp; (try with_reducible rfl)
  simp only [Act.put, List.setIfInBounds_toArray, List.set_cons_zero, List.set_cons_succ]
  refine wpAnyH_take (i := 45) (v := ?vkx46) (oi := ?okx46) ?hkx46 (by kernel_rfl) (by kernel_rfl) (by kernel_rfl) (fun _ _ _ h => h) (Or.inl ⟨?wkx46, ?ykx46⟩) hHeld ?rkx46
  case hkx46 => simp only [List.getElem?_toArray, List.getElem?_cons_zero, List.getElem?_cons_succ]; rfl
  case wkx46 => rfl
  case ykx46 => intro w hSw; (try dsimp only at hSw); go_simp; (try with_reducible rfl)
  simp only [Act.put, List.setIfInBounds_toArray, List.set_cons_zero, List.set_cons_succ]
  refine wpAnyH_done (by kernel_rfl) ?_ _
  refine NoPanic.normal ?_
  clear hsr
  go_wp2_with fail
  go_ret
  exact ⟨rfl, HK7.out.trans' HK8.out⟩
theorem tapekeeps_walk (W : World) {A0 A1 : Option Addr} {n0 c0 n1 c1 : Nat} {la lb : List UInt8} (h0 : Bts W (.slice A0 n0 c0) la) (h1 : Bts W (.slice A1 n1 c1) lb) (z : Int) (hz : (Lit.int .i64 z).wf = true) (y : Int) (hy : (Lit.int .u8 y).wf = true) :
    Calls Try.prog 4 #[.slice A0 n0 c0, .slice A1 n1 c1, .int .i64 z, .int .u8 y] W fun e W' => e = .returned (.bool true) ∧ Below W.heap.size W W' := by
  have h2 := bounds_u8 hy
  have e : y = ((UInt8.ofNat y.toNat).toNat : Int) := by rw [UInt8.toNat_ofNat']; omega
  rw [e]
  exact (tapekeeps_any W h0 h1 z _).mono fun e W' p => ⟨p.1, p.2.below0⟩
end Go.Proofs.Ytidmeibefndmgaa
