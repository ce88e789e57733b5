/- HealWholes: the lost shard that any whole ones make, or why there is none. -/
import Derived.Test.YthmplbklphobaaaHr
import Derived.Test.YthmplbklphobaaaHd
import Derived.Test.YthmplbklphobaaaHp
import Derived.Deep.DeepCutAuto
import Derived.Deep.RegionHeld3
namespace Go.Proofs.Ythmplbklphobaaa
open Go.RowKit
set_option linter.unusedVariables false
set_option linter.unusedSimpArgs false
set_option maxRecDepth 100000

section
variable {w : World} {A : Option Addr} {m cp : Nat} {sl : Nat → Int} {ds : Nat → List UInt8}
theorem hww_notsmall (n k z : Int) (h : ¬ (Rgt n k ∧ n ≤ 12 ∧ k ≤ 4)) : Calls Try.prog 6 #[.int .i64 n, .int .i64 k, .int .i64 z, .slice A m cp] w (R7 w) := by
  have hs := small7_no n k w h
  clear h
  go_enter Try.func6, Try.ntmps6
  go_wp2_with fail
  refine hs.mono ?_
  rintro e w' ⟨rfl, rfl⟩
  go_wp2_with fail
  refine (awake7_any _).mono ?_
  rintro e w9 ⟨rfl, k9⟩
  go_wp2_with fail
  go_ret
  exact ⟨rfl, k9.below0⟩
theorem hww_long (n k z : Int) (h : Rgt n k) (h1 : n ≤ 12) (h2 : k ≤ 4) (hm : 30 < m) : Calls Try.prog 6 #[.int .i64 n, .int .i64 k, .int .i64 z, .slice A m cp] w (R7 w) := by
  have hs := small7_yes n k w h h1 h2
  clear h
  go_enter Try.func6, Try.ntmps6
  go_wp2_with fail
  refine hs.mono ?_
  rintro e w' ⟨rfl, rfl⟩
  go_wp2_with fail
  refine (awake7_any _).mono ?_
  rintro e w9 ⟨rfl, k9⟩
  go_wp2_with fail
  go_ret
  exact ⟨rfl, k9.below0⟩
set_option maxHeartbeats 40000000 in
theorem hww_all {n k a d q : Nat} {x : Nat → UInt8} (z : Int) (hP : Prts w A m sl ds) (hcp : m ≤ cp) (hD : Dim n k a d q) (hX : Pts n a x) (h1 : n ≤ 12) (h2 : k ≤ 4) (hm : m ≤ 30) : Calls Try.prog 6 #[.int .i64 (n : Int), .int .i64 (k : Int), .int .i64 z, .slice A m cp] w (R7 w) := by
  have hR : Rgt (n : Int) (k : Int) := by have := hD.k_; have := hD.d_; have := hD.n1; have := hD.a1; unfold Rgt; omega
  have hs := small7_yes (n : Int) (k : Int) w hR (by omega) (by omega)
  have HN := hide (fun w => mnew_yes w hD hX)
  obtain ⟨hd, hhd⟩ := hP.hds
  have HPT := hide (fun w' (hk : Kp No w w') => parted_any (cp := cp) (n := n) (hhd.no hk) hm (by omega))
  have HH := hide hhd.at_
  have HP := hide hP
  have HD := hide hD
  have HX := hide hX
  have ha1 := hD.a1
  have hk2 : 2 ≤ k := by have := hD.k_; omega
  have ha3 : a ≤ 3 := by have := hD.k_; omega
  have HKA : Hid ((k : Int) - 1 = (a : Int)) := by show (k : Int) - 1 = (a : Int); have := hD.k_; omega
  clear hP hhd hD hX hR
  go_enter Try.func6, Try.ntmps6
  go_wp2_with fail
  refine hs.mono ?_
  rintro e w' ⟨rfl, rfl⟩
  clear hs
  go_wp2_with fail
  go_loopw [9] (fun iv wr => ∃ i : Nat, i ≤ m ∧ iv = .int .i64 (i : Int) ∧ Hid (∀ j, j < i → (ds j).length ≤ 60) ∧ Kp No w wr) (fun iv _ => m - (intOf iv).toNat)
  case atStart => exact ⟨0, Nat.zero_le _, rfl, (fun j hj => absurd hj (Nat.not_lt_zero _) : ∀ j, j < 0 → (ds j).length ≤ 60), Kp.refl _ _⟩
  case round =>
    obtain ⟨i, hi, rfl, hl60, hkw⟩ := hrel
    by_cases hlt : i < m
    · obtain ⟨B, off, A', r, cc, rfl, z0, z1, hhd, hB⟩ := HH.out i hlt
      have hl := hide hB.len
      have y1 := hkw.cell z1 fun f => f
      clear hhd hB z0 z1
      by_cases hr : r ≤ 60
      · have HL3 : Hid (∀ j, j < i + 1 → (ds j).length ≤ 60) := fun j hj => by
          by_cases e : j = i
          · rw [e, ← hl.out]; exact hr
          · exact hl60.out j (by omega)
        go_wp2_with fail
        go_round
        case rel => exact ⟨i + 1, by omega, by go_num, HL3, hkw⟩
        case measure => simp [intOf]; omega
      · have hr' : 60 < r := by omega
        clear hr
        go_wp2_with fail
        refine (awake7_any _).mono ?_
        rintro e w9 ⟨rfl, k9⟩
        go_wp2_with fail
        go_ret
        exact ⟨rfl, (hkw.trans' k9).below0⟩
    · obtain rfl : i = m := by omega
      obtain ⟨m, hmm⟩ : ∃ m, m = i := ⟨_, rfl⟩
      subst hmm
      go_wp2_with fail
      refine (HPT.out wr hkw).mono ?_
      rintro e w2 ⟨b, A1, n1, c1, A2, n2, c2, rfl, hb, hI⟩
      have hkq := hkw.trans' hI.kp
      rcases b with _ | _
      · have HRG : Hid (∀ w' g, Kp No w w' → CodeAt w' g n k x → Calls Try.prog 17 #[cptr g, .int .i64 z, .slice A m cp] w' (BadPost w' 1)) := fun w' g hk hC => who_err hC HD.out (HP.out.no hk) (by omega) z 1 (fun y hy => by
          rcases hy with ⟨_, hy⟩ | ⟨hg, _⟩
          · exact hy
          · have := hb.out.2 hg
            cases this) (by omega)
        go_wp2_with fail
        refine (HN.out _).mono ?_
        rintro e w3 ⟨g, rfl, hC, hk3⟩
        have hk3' := hkq.trans' hk3
        go_wp2_with fail
        refine (HRG.out _ _ hk3' hC).mono ?_
        rintro e w4 ⟨rfl, hk4⟩
        go_wp2_with fail
        refine (awake7_any _).mono ?_
        rintro e w9 ⟨rfl, k9⟩
        go_wp2_with fail
        go_ret
        exact ⟨rfl, ((hk3'.trans' hk4).trans' k9).below0⟩
      · have HGd := hide (hb.out.1 rfl)
        clear hb
        by_cases hf : m < k
        · have HRG : Hid (∀ w' g, Kp No w w' → CodeAt w' g n k x → Calls Try.prog 17 #[cptr g, .int .i64 z, .slice A m cp] w' (BadPost w' 24)) := fun w' g hk hC => who_err hC HD.out (HP.out.no hk) (by omega) z 24 (fun y hy => by
            rcases hy with ⟨⟨j, hj, hn⟩, _⟩ | ⟨_, ⟨_, hy⟩ | ⟨hk, _⟩⟩
            · exact absurd (HGd.out j hj) hn
            · exact hy
            · omega) (by omega)
          go_wp2_with fail
          refine (HN.out _).mono ?_
          rintro e w3 ⟨g, rfl, hC, hk3⟩
          have hk3' := hkq.trans' hk3
          go_wp2_with fail
          refine (HRG.out _ _ hk3' hC).mono ?_
          rintro e w4 ⟨rfl, hk4⟩
          go_wp2_with fail
          refine (awake7_any _).mono ?_
          rintro e w9 ⟨rfl, k9⟩
          go_wp2_with fail
          go_ret
          exact ⟨rfl, ((hk3'.trans' hk4).trans' k9).below0⟩
        · have hkm : k ≤ m := by omega
          have hm0 : 0 < m := by omega
          clear hf
          obtain ⟨e2, hrows⟩ := hI.rows (ds := ds) fun j hj => by
            obtain ⟨_, _, _, _, _, _, _, _, e, hb⟩ := HH.out j hj
            rw [e]
            exact hb.no hkw
          obtain rfl : m = n2 := e2
          obtain ⟨B0, o0, A0, r0, c0, b0, rfl, z00, hb0, hB0⟩ := hrows.get hm0
          rw [Nat.add_zero] at z00
          have hl0 : Hid (r0 = (ds 0).length) := by
            show r0 = (ds 0).length
            simp [hm0] at hb0
            rw [hb0]
            exact hB0.len
          have hr60 : r0 ≤ 60 := by rw [hl0.out]; exact hl60.out 0 hm0
          obtain ⟨rr, hrr⟩ : ∃ rr, rr = r0 % a := ⟨_, rfl⟩
          have HR1 : Hid ((r0 : Int) % (a : Int) = (rr : Int)) := by show (r0 : Int) % (a : Int) = (rr : Int); rw [hrr, Int.natCast_emod]
          have HR2 : Hid ((r0 : Int).tmod (a : Int) = (rr : Int)) := by show (r0 : Int).tmod (a : Int) = (rr : Int); rw [Int.tmod_eq_emod_of_nonneg (by omega), HR1.out]
          have HRR := hide hrr
          clear hb0 hB0 hrr
          by_cases hz : rr = 0
          · obtain ⟨T, hT⟩ : ∃ T, T = r0 / a := ⟨_, rfl⟩
            have hrL : (ds 0).length = a * T := by
              have e := Nat.div_add_mod r0 a
              rw [← HRR.out, hz, ← hT, Nat.add_zero] at e
              rw [← hl0.out]
              exact e.symm
            have hT60 : T ≤ 60 := by
              rw [hT]
              exact Nat.le_trans (Nat.div_le_self _ _) hr60
            have hT1 : 1 ≤ T := by
              rcases Nat.eq_zero_or_pos T with e | e
              · have := (HGd.out 0 hm0).2.2.1
                rw [hrL, e, Nat.mul_zero] at this
                exact absurd rfl this
              · exact e
            have hq12 : q ≤ 12 := by
              rw [HD.out.q_]
              exact Nat.le_trans (Nat.mul_le_mul (show a + 1 ≤ 4 by omega) ha3) (by omega)
            obtain ⟨W, hW⟩ : ∃ W, W = q * T := ⟨_, rfl⟩
            have hWb : W ≤ 1000 := by
              rw [hW]
              exact Nat.le_trans (Nat.mul_le_mul hq12 hT60) (by omega)
            have hss : ∀ j, j < m → sl j = (((sl j).toNat : Nat) : Int) := fun j hj => by have := (HGd.out j hj).1; omega
            subst hz
            by_cases hzz : 0 ≤ z ∧ z < (n : Int)
            · obtain ⟨i, rfl⟩ : ∃ i : Nat, z = i := ⟨z.toNat, by omega⟩
              have hin : i < n := by omega
              have hsn : ∀ j, j < k → (sl j).toNat < n := fun j hj => by
                have := (HGd.out j (by omega)).1
                omega
              have hne : ∀ u j, u < j → j < k → (sl u).toNat ≠ (sl j).toNat := fun u j hu hj e => by
                have h5 := (HGd.out j (by omega)).2.1 u hu
                have h6 := hss u (by omega)
                have h7 := hss j (by omega)
                exact h5 (by rw [h6, h7, e])
              have hU := uq_slots HX.out.uq hsn hne
              have HDK := hide (fun w' g (hk : Kp No w w') (hC : CodeAt w' g n k x) => who_ok (cp := cp) (ss := fun j => (sl j).toNat) (L := T) (W := W) hC HD.out HX.out (HP.out.no hk) (by omega) hcp hkm HGd.out hss hrL hT1 hW hWb hin)
              obtain ⟨g1, e1, e1r, hsl⟩ := hI.slot hm0
              subst e1 e1r
              have HRD := hide (fun w' (hk : Kp No w2 w') => rdec_any (L := T) (W := W) (Bs := g1) (os := 0) (ms := m) (cs := c1) (cd := c2) (ss := fun j => (sl j).toNat) (ds := ds) HD.out HX.out (fun j hj => by
                rw [hk.cell (hsl j (by omega)) fun f => f, hss j (by omega)]
                rfl) hkm (hrows.no hk) hkm (fun j hj => by simp [show j < m by omega]) (fun j hj => by rw [(HGd.out j (by omega)).2.2.2, hrL]) hsn hU hT1 hT60 hq12 hW)
              have HRE := hide (fun w' A' cc bs (hb : Bts w' (.slice A' W cc) bs) => renc_yes (L := T) HD.out HX.out hb hW hWb hT1)
              have HWh : Hid ((redS q (eqM a (plcF a) fun j => x ((fun j => (sl j).toNat) j)) q).rk = q) := by
                have := eqM_whole (plc_ok (a := a) (by omega) ha1) ha1 rfl (x := fun j => x ((fun j => (sl j).toNat) j)) (by rw [← HD.out.k_]; exact hU)
                rw [← HD.out.q_] at this
                exact this
              have HWW := hide hW
              have hzi : (i : Int) < (n : Int) := by omega
              clear hT hrL hss hsn hne hU hW hrows hsl hzz
              go_wp2_with fail
              refine (HN.out _).mono ?_
              rintro e w3 ⟨g, rfl, hC, hk3⟩
              have hk3' := hkq.trans' hk3
              go_wp2_with fail
              refine (HDK.out _ _ hk3' hC).mono ?_
              rintro e w4 ⟨Xb, Ab, nb, cb, rfl, hbb, hEb, hk4⟩
              have hk24 := hk3.trans' hk4
              have y00 := hk24.cell z00 fun f => f
              have hka := HKA.out
              have hr1 := HR1.out
              have hr2 := HR2.out
              have hk4' := hk3'.trans' hk4
              clear hC hk3 hk3' z00
              go_wp2_with fail
              clear hka hr1 hr2 y00
              refine (HRD.out w4 hk24).mono ?_
              rintro e w5 ⟨Xc, A5, n5, c5, rfl, ho5, hE5, hk5⟩
              obtain rfl : W = n5 := by rw [ho5.len, rowL_len]
              have hbe : (rowL W fun t => Xc (t / T) (t % T)) = rowL W fun t => Xb (t / T) (t % T) := by
                have hu := solve_only HWh.out (hE5.trans hEb.symm)
                refine rowL_congr fun t ht => hu _ _ ?_ (Nat.mod_lt _ hT1)
                rw [HWW.out, Nat.mul_comm] at ht
                exact Nat.div_lt_of_lt_mul ht
              have hb5 := ho5.bts
              rw [hbe] at hb5
              clear ho5 hE5 hEb hbe
              go_wp2_with fail
              refine (HRE.out w5 _ _ _ hb5).mono ?_
              rintro e w6 ⟨A7, c7, rfl, hR7, hk6⟩
              obtain ⟨B7, o7, A8, n8, c8, b8, rfl, y8, hb8, hB8⟩ := hR7.get hin
              rw [matL_get _ hin] at hb8
              injection hb8 with hb8
              subst hb8
              have hb6 := hbb.no (hk5.trans' hk6)
              have hk6' := (hk4'.trans' hk5).trans' hk6
              generalize rowL (a * T) (shE a d T (rowL W fun t => Xb (t / T) (t % T)) (x i)) = YS at *
              obtain ⟨tt, htt⟩ : ∃ tt, tt = strOf YS := ⟨_, rfl⟩
              have HT := hide htt
              have hS : ∀ u, Kp No w6 u → (Kp No w6 u ∧ Bts u (.slice Ab nb cb) YS ∧ u.cell? ⟨B7, o7 + i, none⟩ = some (.slice A8 n8 c8) ∧ Bts u (.slice A8 n8 c8) YS) := fun u hk => ⟨hk, hb6.no hk, hk.cell y8 fun f => f, hB8.no hk⟩
              clear htt hb5 hbb hR7 hb6 hB8 y8 hk4' hk5 hk6 hk4 HRE HRD HWh
              go_wp2_with fail
              refine wp_region_noPanic ?_
              refine wp_region_held_drew (S := fun w' => Kp No w6 w' ∧ Bts w' (.slice Ab nb cb) YS ∧ w'.cell? ⟨B7, o7 + i, none⟩ = some (.slice A8 n8 c8) ∧ Bts w' (.slice A8 n8 c8) YS) (by kernel_rfl) (hS _ (Sm.drew w6).kp) (fun hHeld => ?_)
              refine wpAnyH_take (i := 0) (v := ?vcx1) (oi := ?ocx1) ?hcx1 (by kernel_rfl) (by kernel_rfl) (by kernel_rfl) (fun _ _ _ h => h) (Or.inl ⟨?wcx1, ?ycx1⟩) hHeld ?rcx1
              case hcx1 => simp only [List.getElem?_toArray, List.getElem?_cons_zero, List.getElem?_cons_succ]; rfl
              case wcx1 => rfl
              case ycx1 => intro w hSw; (try dsimp only at hSw); go_simp; (try with_reducible rfl)
              simp only [Act.put, List.setIfInBounds_toArray, List.set_cons_zero, List.set_cons_succ]
              refine wpAnyH_take (i := 2) (v := ?vcx2) (oi := ?ocx2) ?hcx2 (by kernel_rfl) (by kernel_rfl) (by kernel_rfl) (fun _ _ _ h => h) (Or.inl ⟨?wcx2, ?ycx2⟩) hHeld ?rcx2
              case hcx2 => simp only [List.getElem?_toArray, List.getElem?_cons_zero, List.getElem?_cons_succ]; rfl
              case wcx2 => rfl
              case ycx2 => intro w hSw; (try dsimp only at hSw); go_simp; (try with_reducible rfl)
              simp only [Act.put, List.setIfInBounds_toArray, List.set_cons_zero, List.set_cons_succ]
              refine wpAnyH_take (i := 3) (v := ?vcx3) (oi := ?ocx3) ?hcx3 (by kernel_rfl) (by kernel_rfl) (by kernel_rfl) (fun _ _ _ h => h) (Or.inl ⟨?wcx3, ?ycx3⟩) hHeld ?rcx3
              case hcx3 => simp only [List.getElem?_toArray, List.getElem?_cons_zero, List.getElem?_cons_succ]; rfl
              case wcx3 => rfl
              case ycx3 => intro w hSw; (try dsimp only at hSw); go_simp; (try with_reducible rfl)
              simp only [Act.put, List.setIfInBounds_toArray, List.set_cons_zero, List.set_cons_succ]
              refine wpAnyH_take (i := 4) (v := ?vcx4) (oi := ?ocx4) ?hcx4 (by kernel_rfl) (by kernel_rfl) (by kernel_rfl) (fun _ _ _ h => h) (Or.inl ⟨?wcx4, ?ycx4⟩) hHeld ?rcx4
              case hcx4 => simp only [List.getElem?_toArray, List.getElem?_cons_zero, List.getElem?_cons_succ]; rfl
              case wcx4 => rfl
              case ycx4 => intro w hSw; (try dsimp only at hSw); go_simp; (try with_reducible rfl)
              simp only [Act.put, List.setIfInBounds_toArray, List.set_cons_zero, List.set_cons_succ]
              refine wpAnyH_take (i := 5) (v := ?vcx5) (oi := ?ocx5) ?hcx5 (by kernel_rfl) (by kernel_rfl) (by kernel_rfl) (fun _ _ _ h => h) (Or.inl ⟨?wcx5, ?ycx5⟩) hHeld ?rcx5
              case hcx5 => simp only [List.getElem?_toArray, List.getElem?_cons_zero, List.getElem?_cons_succ]; rfl
              case wcx5 => rfl
              case ycx5 => intro w hSw; (try dsimp only at hSw); go_simp; (try with_reducible rfl)
              simp only [Act.put, List.setIfInBounds_toArray, List.set_cons_zero, List.set_cons_succ]
              refine wpAnyH_ready (rs := [1, 6]) (by kernel_rfl) (by simp) ?_
              refine (AllReadyH.cons (o := ?ocx7) ?hcx7 (fun K hK => ?scx7) (AllReadyH.cons (o := ?ocx8) ?hcx8 (fun K hK => ?scx8) AllReadyH.nil))
              case hcx7 => simp only [List.getElem?_toArray, List.getElem?_cons_zero, List.getElem?_cons_succ]; rfl
              case hcx8 => simp only [List.getElem?_toArray, List.getElem?_cons_zero, List.getElem?_cons_succ]; rfl
              case scx7 =>
                have v1 := conv_bts hHeld.2.1
                rw [← HT.out] at v1
                go_simp
                refine hK.out _ _ (hHeld) (fun hHeld => ?_)
                clear hK K
                try simp only [Act.put, List.setIfInBounds_toArray, List.set_cons_zero, List.set_cons_succ]
                refine wpAnyH_ready (rs := [6]) (by kernel_rfl) (by simp) ?_
                refine AllReadyH.cons (o := ?ocx9) ?hcx9 (fun K hK => ?scx9) AllReadyH.nil
                case hcx9 => simp only [List.getElem?_toArray, List.getElem?_cons_zero, List.getElem?_cons_succ]; rfl
                have v7 := conv_bts hHeld.2.2.2
                rw [← HT.out] at v7
                go_simp
                refine hK.out _ _ (hHeld) (fun hHeld => ?_)
                clear hK K
                try simp only [Act.put, List.setIfInBounds_toArray, List.set_cons_zero, List.set_cons_succ]
                refine wpAnyH_take (i := 7) (v := ?vcx10) (oi := ?ocx10) ?hcx10 (by kernel_rfl) (by kernel_rfl) (by kernel_rfl) (fun _ _ _ h => h) (Or.inl ⟨?wcx10, ?ycx10⟩) hHeld ?rcx10
                case hcx10 => simp only [List.getElem?_toArray, List.getElem?_cons_zero, List.getElem?_cons_succ]; rfl
                case wcx10 => rfl
                case ycx10 => intro w hSw; (try dsimp only at hSw); go_simp; (try with_reducible rfl)
                simp only [Act.put, List.setIfInBounds_toArray, List.set_cons_zero, List.set_cons_succ]
                refine wpAnyH_take (i := 8) (v := ?vcx11) (oi := ?ocx11) ?hcx11 (by kernel_rfl) (by kernel_rfl) (by kernel_rfl) (fun _ _ _ h => h) (Or.inl ⟨?wcx11, ?ycx11⟩) hHeld ?rcx11
                case hcx11 => simp only [List.getElem?_toArray, List.getElem?_cons_zero, List.getElem?_cons_succ]; rfl
                case wcx11 => rfl
                case ycx11 => intro w hSw; (try dsimp only at hSw); go_simp; (try with_reducible rfl)
                simp only [Act.put, List.setIfInBounds_toArray, List.set_cons_zero, List.set_cons_succ]
                refine wpAnyH_ready (rs := [9]) (by kernel_rfl) (by simp) ?_
                refine AllReadyH.cons (o := ?ocx12) ?hcx12 (fun K hK => ?scx12) AllReadyH.nil
                case hcx12 => simp only [List.getElem?_toArray, List.getElem?_cons_zero, List.getElem?_cons_succ]; rfl
                go_simp
                refine hK.out _ _ (hHeld) (fun hHeld => ?_)
                clear hK K
                try simp only [Act.put, List.setIfInBounds_toArray, List.set_cons_zero, List.set_cons_succ]
                refine wpAnyH_ready (rs := [10]) (by kernel_rfl) (by simp) ?_
                refine AllReadyH.cons (o := ?ocx13) ?hcx13 (fun K hK => ?scx13) AllReadyH.nil
                case hcx13 => simp only [List.getElem?_toArray, List.getElem?_cons_zero, List.getElem?_cons_succ]; rfl
                go_simp
                refine hK.out _ _ (hHeld) (fun hHeld => ?_)
                clear hK K
                try simp only [Act.put, List.setIfInBounds_toArray, List.set_cons_zero, List.set_cons_succ]
                refine wpAnyH_take (i := 11) (v := ?vcx14) (oi := ?ocx14) ?hcx14 (by kernel_rfl) (by kernel_rfl) (by kernel_rfl) (fun _ _ _ h => h) (Or.inl ⟨?wcx14, ?ycx14⟩) hHeld ?rcx14
                case hcx14 => simp only [List.getElem?_toArray, List.getElem?_cons_zero, List.getElem?_cons_succ]; rfl
                case wcx14 => rfl
                case ycx14 => intro w hSw; (try dsimp only at hSw); go_simp; (try with_reducible rfl)
                simp only [Act.put, List.setIfInBounds_toArray, List.set_cons_zero, List.set_cons_succ]
                refine wpAnyH_take (i := 12) (v := ?vcx15) (oi := ?ocx15) ?hcx15 (by kernel_rfl) (by kernel_rfl) (by kernel_rfl) (fun _ _ _ h => h) (Or.inl ⟨?wcx15, ?ycx15⟩) hHeld ?rcx15
                case hcx15 => simp only [List.getElem?_toArray, List.getElem?_cons_zero, List.getElem?_cons_succ]; rfl
                case wcx15 => rfl
                case ycx15 => intro w hSw; (try dsimp only at hSw); go_simp; (try with_reducible rfl)
                simp only [Act.put, List.setIfInBounds_toArray, List.set_cons_zero, List.set_cons_succ]
                refine wpAnyH_ready (rs := [13]) (by kernel_rfl) (by simp) ?_
                refine AllReadyH.cons (o := ?ocx16) ?hcx16 (fun K hK => ?scx16) AllReadyH.nil
                case hcx16 => simp only [List.getElem?_toArray, List.getElem?_cons_zero, List.getElem?_cons_succ]; rfl
                go_simp
                refine (awake7_any _).mono ?_
                rintro e w9 ⟨rfl, k9⟩
                have hx9 := hS _ (hHeld.1.trans' k9)
                go_wp2_with fail
                refine hK.out _ _ (hx9) (fun hHeld => ?_)
                clear hK K
                try simp only [Act.put, List.setIfInBounds_toArray, List.set_cons_zero, List.set_cons_succ]
                refine wpAnyH_take (i := 14) (v := ?vcx17) (oi := ?ocx17) ?hcx17 (by kernel_rfl) (by kernel_rfl) (by kernel_rfl) (fun _ _ _ h => h) (Or.inl ⟨?wcx17, ?ycx17⟩) hHeld ?rcx17
                case hcx17 => simp only [List.getElem?_toArray, List.getElem?_cons_zero, List.getElem?_cons_succ]; rfl
                case wcx17 => rfl
                case ycx17 => intro w hSw; (try dsimp only at hSw); go_simp; (try with_reducible rfl)
                simp only [Act.put, List.setIfInBounds_toArray, List.set_cons_zero, List.set_cons_succ]
                refine wpAnyH_ready (rs := [15]) (by kernel_rfl) (by simp) ?_
                refine AllReadyH.cons (o := ?ocx18) ?hcx18 (fun K hK => ?scx18) AllReadyH.nil
                case hcx18 => simp only [List.getElem?_toArray, List.getElem?_cons_zero, List.getElem?_cons_succ]; rfl
                go_simp
                refine hK.out _ _ (hHeld) (fun hHeld => ?_)
                clear hK K
                try simp only [Act.put, List.setIfInBounds_toArray, List.set_cons_zero, List.set_cons_succ]
                refine wpAnyH_done (by kernel_rfl) ?_ _
                refine NoPanic.normal ?_
                go_wp2_with fail
                go_ret
                exact ⟨rfl, (hk6'.trans' hHeld.1).below0⟩
              case scx8 =>
                have v7 := conv_bts hHeld.2.2.2
                rw [← HT.out] at v7
                go_simp
                refine hK.out _ _ (hHeld) (fun hHeld => ?_)
                clear hK K
                try simp only [Act.put, List.setIfInBounds_toArray, List.set_cons_zero, List.set_cons_succ]
                refine wpAnyH_ready (rs := [1]) (by kernel_rfl) (by simp) ?_
                refine AllReadyH.cons (o := ?ocx20) ?hcx20 (fun K hK => ?scx20) AllReadyH.nil
                case hcx20 => simp only [List.getElem?_toArray, List.getElem?_cons_zero, List.getElem?_cons_succ]; rfl
                have v1 := conv_bts hHeld.2.1
                rw [← HT.out] at v1
                go_simp
                refine hK.out _ _ (hHeld) (fun hHeld => ?_)
                clear hK K
                try simp only [Act.put, List.setIfInBounds_toArray, List.set_cons_zero, List.set_cons_succ]
                refine wpAnyH_take (i := 7) (v := ?vcx21) (oi := ?ocx21) ?hcx21 (by kernel_rfl) (by kernel_rfl) (by kernel_rfl) (fun _ _ _ h => h) (Or.inl ⟨?wcx21, ?ycx21⟩) hHeld ?rcx21
                case hcx21 => simp only [List.getElem?_toArray, List.getElem?_cons_zero, List.getElem?_cons_succ]; rfl
                case wcx21 => rfl
                case ycx21 => intro w hSw; (try dsimp only at hSw); go_simp; (try with_reducible rfl)
                simp only [Act.put, List.setIfInBounds_toArray, List.set_cons_zero, List.set_cons_succ]
                refine wpAnyH_take (i := 8) (v := ?vcx22) (oi := ?ocx22) ?hcx22 (by kernel_rfl) (by kernel_rfl) (by kernel_rfl) (fun _ _ _ h => h) (Or.inl ⟨?wcx22, ?ycx22⟩) hHeld ?rcx22
                case hcx22 => simp only [List.getElem?_toArray, List.getElem?_cons_zero, List.getElem?_cons_succ]; rfl
                case wcx22 => rfl
                case ycx22 => intro w hSw; (try dsimp only at hSw); go_simp; (try with_reducible rfl)
                simp only [Act.put, List.setIfInBounds_toArray, List.set_cons_zero, List.set_cons_succ]
                refine wpAnyH_ready (rs := [9]) (by kernel_rfl) (by simp) ?_
                refine AllReadyH.cons (o := ?ocx23) ?hcx23 (fun K hK => ?scx23) AllReadyH.nil
                case hcx23 => simp only [List.getElem?_toArray, List.getElem?_cons_zero, List.getElem?_cons_succ]; rfl
                go_simp
                refine hK.out _ _ (hHeld) (fun hHeld => ?_)
                clear hK K
                try simp only [Act.put, List.setIfInBounds_toArray, List.set_cons_zero, List.set_cons_succ]
                refine wpAnyH_ready (rs := [10]) (by kernel_rfl) (by simp) ?_
                refine AllReadyH.cons (o := ?ocx24) ?hcx24 (fun K hK => ?scx24) AllReadyH.nil
                case hcx24 => simp only [List.getElem?_toArray, List.getElem?_cons_zero, List.getElem?_cons_succ]; rfl
                go_simp
                refine hK.out _ _ (hHeld) (fun hHeld => ?_)
                clear hK K
                try simp only [Act.put, List.setIfInBounds_toArray, List.set_cons_zero, List.set_cons_succ]
                refine wpAnyH_take (i := 11) (v := ?vcx25) (oi := ?ocx25) ?hcx25 (by kernel_rfl) (by kernel_rfl) (by kernel_rfl) (fun _ _ _ h => h) (Or.inl ⟨?wcx25, ?ycx25⟩) hHeld ?rcx25
                case hcx25 => simp only [List.getElem?_toArray, List.getElem?_cons_zero, List.getElem?_cons_succ]; rfl
                case wcx25 => rfl
                case ycx25 => intro w hSw; (try dsimp only at hSw); go_simp; (try with_reducible rfl)
                simp only [Act.put, List.setIfInBounds_toArray, List.set_cons_zero, List.set_cons_succ]
                refine wpAnyH_take (i := 12) (v := ?vcx26) (oi := ?ocx26) ?hcx26 (by kernel_rfl) (by kernel_rfl) (by kernel_rfl) (fun _ _ _ h => h) (Or.inl ⟨?wcx26, ?ycx26⟩) hHeld ?rcx26
                case hcx26 => simp only [List.getElem?_toArray, List.getElem?_cons_zero, List.getElem?_cons_succ]; rfl
                case wcx26 => rfl
                case ycx26 => intro w hSw; (try dsimp only at hSw); go_simp; (try with_reducible rfl)
                simp only [Act.put, List.setIfInBounds_toArray, List.set_cons_zero, List.set_cons_succ]
                refine wpAnyH_ready (rs := [13]) (by kernel_rfl) (by simp) ?_
                refine AllReadyH.cons (o := ?ocx27) ?hcx27 (fun K hK => ?scx27) AllReadyH.nil
                case hcx27 => simp only [List.getElem?_toArray, List.getElem?_cons_zero, List.getElem?_cons_succ]; rfl
                go_simp
                refine (awake7_any _).mono ?_
                rintro e w9 ⟨rfl, k9⟩
                have hx9 := hS _ (hHeld.1.trans' k9)
                go_wp2_with fail
                refine hK.out _ _ (hx9) (fun hHeld => ?_)
                clear hK K
                try simp only [Act.put, List.setIfInBounds_toArray, List.set_cons_zero, List.set_cons_succ]
                refine wpAnyH_take (i := 14) (v := ?vcx28) (oi := ?ocx28) ?hcx28 (by kernel_rfl) (by kernel_rfl) (by kernel_rfl) (fun _ _ _ h => h) (Or.inl ⟨?wcx28, ?ycx28⟩) hHeld ?rcx28
                case hcx28 => simp only [List.getElem?_toArray, List.getElem?_cons_zero, List.getElem?_cons_succ]; rfl
                case wcx28 => rfl
                case ycx28 => intro w hSw; (try dsimp only at hSw); go_simp; (try with_reducible rfl)
                simp only [Act.put, List.setIfInBounds_toArray, List.set_cons_zero, List.set_cons_succ]
                refine wpAnyH_ready (rs := [15]) (by kernel_rfl) (by simp) ?_
                refine AllReadyH.cons (o := ?ocx29) ?hcx29 (fun K hK => ?scx29) AllReadyH.nil
                case hcx29 => simp only [List.getElem?_toArray, List.getElem?_cons_zero, List.getElem?_cons_succ]; rfl
                go_simp
                refine hK.out _ _ (hHeld) (fun hHeld => ?_)
                clear hK K
                try simp only [Act.put, List.setIfInBounds_toArray, List.set_cons_zero, List.set_cons_succ]
                refine wpAnyH_done (by kernel_rfl) ?_ _
                refine NoPanic.normal ?_
                go_wp2_with fail
                go_ret
                exact ⟨rfl, (hk6'.trans' hHeld.1).below0⟩
            · have HRG : Hid (∀ w' g, Kp No w w' → CodeAt w' g n k x → Calls Try.prog 17 #[cptr g, .int .i64 z, .slice A m cp] w' (BadPost w' 1)) := fun w' g hk hC => who_out (cp := cp) (ss := fun j => (sl j).toNat) (L := T) (W := W) hC HD.out HX.out (HP.out.no hk) (by omega) hcp hkm HGd.out hss hrL hW (by omega) z (by omega)
              have hzc : z < 0 ∨ 0 ≤ z ∧ (n : Int) ≤ z := by omega
              clear hzz hss hT hrL hW
              rcases hzc with hzc | ⟨hz1, hz2⟩
              · clear hrows
                go_wp2_with fail
                refine (HN.out _).mono ?_
                rintro e w3 ⟨g, rfl, hC, hk3⟩
                have hk3' := hkq.trans' hk3
                go_wp2_with fail
                refine (HRG.out _ _ hk3' hC).mono ?_
                rintro e w4 ⟨rfl, hk4⟩
                have y00 := (hk3.trans' hk4).cell z00 fun f => f
                have hka := HKA.out
                have hr1 := HR1.out
                have hr2 := HR2.out
                go_wp2_with fail
                refine (awake7_any _).mono ?_
                rintro e w9 ⟨rfl, k9⟩
                go_wp2_with fail
                go_ret
                exact ⟨rfl, ((hk3'.trans' hk4).trans' k9).below0⟩
              · clear hrows
                go_wp2_with fail
                refine (HN.out _).mono ?_
                rintro e w3 ⟨g, rfl, hC, hk3⟩
                have hk3' := hkq.trans' hk3
                go_wp2_with fail
                refine (HRG.out _ _ hk3' hC).mono ?_
                rintro e w4 ⟨rfl, hk4⟩
                have y00 := (hk3.trans' hk4).cell z00 fun f => f
                have hka := HKA.out
                have hr1 := HR1.out
                have hr2 := HR2.out
                go_wp2_with fail
                refine (awake7_any _).mono ?_
                rintro e w9 ⟨rfl, k9⟩
                go_wp2_with fail
                go_ret
                exact ⟨rfl, ((hk3'.trans' hk4).trans' k9).below0⟩
          · have HRG : Hid (∀ w' g, Kp No w w' → CodeAt w' g n k x → Calls Try.prog 17 #[cptr g, .int .i64 z, .slice A m cp] w' (BadPost w' 1)) := fun w' g hk hC => who_err hC HD.out (HP.out.no hk) (by omega) z 1 (fun y hy => by
              rcases hy with ⟨⟨j, hj, hn⟩, _⟩ | ⟨_, ⟨hk, _⟩ | ⟨_, ⟨_, hy⟩ | ⟨hm0, _⟩⟩⟩
              · exact absurd (HGd.out j hj) hn
              · omega
              · exact hy
              · rw [← hl0.out, ← HRR.out] at hm0
                exact absurd hm0 hz) (by omega)
            have hz' : ((rr : Int) != 0) = true := by simp; omega
            clear hz hrows
            go_wp2_with fail
            refine (HN.out _).mono ?_
            rintro e w3 ⟨g, rfl, hC, hk3⟩
            have hk3' := hkq.trans' hk3
            go_wp2_with fail
            refine (HRG.out _ _ hk3' hC).mono ?_
            rintro e w4 ⟨rfl, hk4⟩
            have y00 := (hk3.trans' hk4).cell z00 fun f => f
            have hka := HKA.out
            have hr1 := HR1.out
            have hr2 := HR2.out
            go_wp2_with fail
            refine (awake7_any _).mono ?_
            rintro e w9 ⟨rfl, k9⟩
            go_wp2_with fail
            go_ret
            exact ⟨rfl, ((hk3'.trans' hk4).trans' k9).below0⟩
end
theorem healwholes_walk {w : World} {A : Option Addr} {m cp : Nat} {sl : Nat → Int} {ds : Nat → List UInt8} (n k z : Int) (hP : Prts w A m sl ds) (hcp : m ≤ cp) : Calls Try.prog 6 #[.int .i64 n, .int .i64 k, .int .i64 z, .slice A m cp] w fun e w' => e = .returned (.bool true) ∧ Below w.heap.size w w' := by
  show Calls _ _ _ _ (R7 w)
  by_cases h : Rgt n k ∧ n ≤ 12 ∧ k ≤ 4
  · obtain ⟨hR, h1, h2⟩ := h
    by_cases hm : m ≤ 30
    · obtain ⟨r1, r2, r3, r4⟩ := hR
      obtain ⟨n', rfl⟩ : ∃ n' : Nat, n = n' := ⟨n.toNat, by omega⟩
      obtain ⟨k', rfl⟩ : ∃ k' : Nat, k = k' := ⟨k.toNat, by omega⟩
      obtain ⟨a, d, q, hD⟩ := dim_of (n := n') (k := k') (by omega) (by omega) (by omega) (by omega)
      obtain ⟨x, hX⟩ := pts_ex (n := n') hD.a1 hD.a7 hD.n2
      exact hww_all z hP hcp hD hX (by omega) (by omega) hm
    · exact hww_long n k z hR h1 h2 (by omega)
  · exact hww_notsmall n k z h
end Go.Proofs.Ythmplbklphobaaa
