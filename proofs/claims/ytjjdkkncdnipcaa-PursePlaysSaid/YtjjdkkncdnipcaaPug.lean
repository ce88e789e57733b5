/- PursePlays walked: it returns true for any numbers and any acts. No condition. -/
import Derived.Test.YtjjdkkncdnipcaaPuf
import Derived.Test.YtjjdkkncdnipcaaPue
import Derived.Test.YtjjdkkncdnipcaaRgh
import Derived.Deep.DeepCutAuto
import Derived.Deep.CutBlock
namespace Go.Proofs.Ytjjdkkncdnipcaa
open Go.RowKit Go.WideShapes Go.ChangeShapes
set_option linter.unusedVariables false
set_option maxRecDepth 20000
set_option linter.unusedSimpArgs false

/-- Package purse's purse T at g, the document's D in the box s. -/
structure PqM (W : World) (g s : Nat) (T D : Pu) (wr : World) : Prop where
  pr : PuAt wr g T
  bx : BxP wr s D
  kp : Kp No W wr
  ge : W.heap.size ≤ g
  se : W.heap.size ≤ s
  ne : g ≠ s
  ok : D.Ok
section
variable {W wr w1 w2 : World} {g s q : Nat} {T T' D D' U : Pu} {S : Nat → Prop}
theorem PqM.no (h : PqM W g s T D wr) (hk : Kp No wr w1) : PqM W g s T D w1 := ⟨h.pr.no hk, h.bx.no hk, h.kp.trans' hk, h.ge, h.se, h.ne, h.ok⟩
/-- A call on package purse's. -/
theorem PqM.call (h : PqM W g s T D wr) (hp : PuAt w1 g T') (hk : Kp (fun k => k = g) wr w1) : PqM W g s T' D w1 :=
  ⟨hp, h.bx.keep hk (fun e => h.ne e.symm), h.kp.trans (hk.mono fun k e => .inr (by rw [e]; exact h.ge)), h.ge, h.se, h.ne, h.ok⟩
/-- Another box is written. -/
theorem PqM.far (h : PqM W g s T D wr) (h1 : q ≠ s) (h2 : q ≠ g) (h3 : W.heap.size ≤ q) (u0 u1 u2 u3 : Value) : PqM W g s T D ((((wr.setCell ⟨q, 0, none⟩ u0).setCell ⟨q, 1, none⟩ u1).setCell ⟨q, 2, none⟩ u2).setCell ⟨q, 3, none⟩ u3) :=
  ⟨h.pr.keep (kp_bxp wr q _ _ _ _) (fun e => h2 e.symm), h.bx.keep (kp_bxp wr q _ _ _ _) (fun e => h1 e.symm), h.kp.trans ((kp_bxp wr q _ _ _ _).mono fun k e => .inr (by rw [e]; exact h3)), h.ge, h.se, h.ne, h.ok⟩
/-- The document's box is written. -/
theorem PqM.write (h : PqM W g s T D wr) (hU : U.Ok) : PqM W g s T U ((((wr.setCell ⟨s, 0, none⟩ (.int .u64 (U.rate : Int))).setCell ⟨s, 1, none⟩ (.int .u64 (U.burst : Int))).setCell ⟨s, 2, none⟩ (.int .u64 (U.level : Int))).setCell ⟨s, 3, none⟩ (.int .u64 (U.spent : Int))) :=
  ⟨h.pr.keep (kp_bxp wr s _ _ _ _) h.ne, h.bx.set4 U, h.kp.trans ((kp_bxp wr s _ _ _ _).mono fun k e => .inr (by rw [e]; exact h.se)), h.ge, h.se, h.ne, hU⟩
end
def PqI (W : World) (g s : Nat) (wr : World) : Prop := ∃ T, PqM W g s T T wr

set_option maxRecDepth 100000 in
set_option maxHeartbeats 8000000 in
theorem purseplays_any (W : World) (r b n : Nat) (hr : r ≤ 18446744073709551615) (hb : b ≤ 18446744073709551615) (hn : n ≤ 18446744073709551615) {A0 : Option Addr} {n0 c0 : Nat} {KK : Nat → Int} {NN : Nat → Nat} (h0 : ActsQ W A0 n0 KK NN) :
    Calls Try.prog 3 #[.int .u64 (r : Int), .int .u64 (b : Int), .slice A0 n0 c0, .int .u64 (n : Int)] W (TruePost W) := by
  have hb0 := h0.big
  have HA0 := hide h0
  have HN : Hid (n ≤ 18446744073709551615) := hn
  clear h0 hn
  by_cases hR : r ≤ 1152921504606846976 ∧ b ≤ 1152921504606846976
  rotate_left 1
  · have HNEW := hide (fun w => pnew_no w r b hR)
    have HC : ((decide ((1152921504606846976 : Int) < (r : Int))) || (decide ((1152921504606846976 : Int) < (b : Int)))) = true := by
      rw [Bool.or_eq_true, decide_eq_true_iff, decide_eq_true_iff]
      omega
    by_cases h1 : 1152921504606846976 < r
    · have c1 : decide ((1152921504606846976 : Int) < (r : Int)) = true := decide_eq_true (by omega)
      clear hR HC
      go_enter Try.func3, Try.ntmps3
      go_wp2_with fail
      refine (awake18_any _).mono ?_
      rintro e w1 ⟨rfl, k1⟩
      have HK1 := hide k1
      clear k1
      go_wp2_with fail
      refine (HNEW.out _).mono ?_
      rintro e w2 ⟨rfl, rfl⟩
      go_wp2_with fail
      refine (ptick_nil _ 1).mono ?_
      rintro e w9 ⟨rfl, rfl⟩
      go_wp2_with fail
      refine (pback_nil _ 1).mono ?_
      rintro e w9 ⟨rfl, rfl⟩
      go_wp2_with fail
      refine (pwait_nil _ 0).mono ?_
      rintro e w9 ⟨rfl, rfl⟩
      go_wp2_with fail
      refine (plevel_nil _).mono ?_
      rintro e w9 ⟨rfl, rfl⟩
      go_wp2_with fail
      refine (pspent_nil _).mono ?_
      rintro e w9 ⟨rfl, rfl⟩
      go_wp2_with fail
      refine (pbound_nil _ 1).mono ?_
      rintro e w9 ⟨rfl, rfl⟩
      go_wp2_with fail
      refine (pspend_nil _ 0).mono ?_
      rintro e w9 ⟨rfl, rfl⟩
      go_wp2_with fail
      refine (awake18_any _).mono ?_
      rintro e w2 ⟨rfl, k2⟩
      go_wp2_with fail
      go_ret
      exact ⟨rfl, HK1.out.trans' k2⟩
    · have c1 : decide ((1152921504606846976 : Int) < (r : Int)) = false := decide_eq_false (by omega)
      have c2 : decide ((1152921504606846976 : Int) < (b : Int)) = true := decide_eq_true (by omega)
      clear hR HC
      go_enter Try.func3, Try.ntmps3
      go_wp2_with fail
      refine (awake18_any _).mono ?_
      rintro e w1 ⟨rfl, k1⟩
      have HK1 := hide k1
      clear k1
      go_wp2_with fail
      refine (HNEW.out _).mono ?_
      rintro e w2 ⟨rfl, rfl⟩
      go_wp2_with fail
      refine (ptick_nil _ 1).mono ?_
      rintro e w9 ⟨rfl, rfl⟩
      go_wp2_with fail
      refine (pback_nil _ 1).mono ?_
      rintro e w9 ⟨rfl, rfl⟩
      go_wp2_with fail
      refine (pwait_nil _ 0).mono ?_
      rintro e w9 ⟨rfl, rfl⟩
      go_wp2_with fail
      refine (plevel_nil _).mono ?_
      rintro e w9 ⟨rfl, rfl⟩
      go_wp2_with fail
      refine (pspent_nil _).mono ?_
      rintro e w9 ⟨rfl, rfl⟩
      go_wp2_with fail
      refine (pbound_nil _ 1).mono ?_
      rintro e w9 ⟨rfl, rfl⟩
      go_wp2_with fail
      refine (pspend_nil _ 0).mono ?_
      rintro e w9 ⟨rfl, rfl⟩
      go_wp2_with fail
      refine (awake18_any _).mono ?_
      rintro e w2 ⟨rfl, k2⟩
      go_wp2_with fail
      go_ret
      exact ⟨rfl, HK1.out.trans' k2⟩
  obtain ⟨hr2, hb2⟩ := hR
  have c1 : decide ((1152921504606846976 : Int) < (r : Int)) = false := decide_eq_false (by omega)
  have c2 : decide ((1152921504606846976 : Int) < (b : Int)) = false := decide_eq_false (by omega)
  have HNEW := hide (fun w => pnew_any w r b hr2 hb2)
  have HNO := hide (Pu.new_ok hr2 hb2)
  clear hr hb hr2 hb2
  go_enter Try.func3, Try.ntmps3
  go_wp2_with fail
  refine (awake18_any _).mono ?_
  rintro e w1 ⟨rfl, k1⟩
  have HK1 := hide k1
  clear k1
  go_wp2_with fail
  refine (HNEW.out _).mono ?_
  rintro e w2 ⟨g, rfl, h2, hg, k2⟩
  have H2 := hide h2
  have HG : Hid (W.heap.size ≤ g) := Nat.le_trans HK1.out.size hg
  have HK2 := hide (HK1.out.trans' k2)
  clear h2 hg k2 HK1
  go_wp2_with fail
  refine (ptick_nil _ 1).mono ?_
  rintro e w9 ⟨rfl, rfl⟩
  go_wp2_with fail
  refine (pback_nil _ 1).mono ?_
  rintro e w9 ⟨rfl, rfl⟩
  go_wp2_with fail
  refine (pwait_nil _ 0).mono ?_
  rintro e w9 ⟨rfl, rfl⟩
  go_wp2_with fail
  refine (plevel_nil _).mono ?_
  rintro e w9 ⟨rfl, rfl⟩
  go_wp2_with fail
  refine (pspent_nil _).mono ?_
  rintro e w9 ⟨rfl, rfl⟩
  go_wp2_with fail
  refine (pbound_nil _ 1).mono ?_
  rintro e w9 ⟨rfl, rfl⟩
  go_wp2_with fail
  refine (pspend_nil _ 0).mono ?_
  rintro e w9 ⟨rfl, rfl⟩
  have HS0 : Hid (PqM W g w2.heap.size (Pu.new r b) (Pu.new r b) (w2.alloc (.cells #[.int .u64 (r : Int), .int .u64 (b : Int), .int .u64 (b : Int), .int .u64 0] 36))) :=
    ⟨H2.out.no (Kp.alloc No _ _), new_box w2 r b, HK2.out.al _, HG.out, HK2.out.size, by have := H2.out.lt; omega, HNO.out⟩
  go_upto_region 13 with fail
  clear c1 c2
  generalize w2.alloc (.cells #[.int .u64 (r : Int), .int .u64 (b : Int), .int .u64 (b : Int), .int .u64 0] 36) = w3 at HS0 ⊢
  obtain ⟨s, hs⟩ : ∃ s, s = w2.heap.size := ⟨_, rfl⟩
  rw [← hs] at HS0 ⊢
  clear hs
  have HI0 : Hid (PqI W g s w3) := ⟨_, HS0.out⟩
  clear HS0 H2 HG HK2 HNEW HNO
  go_wp2_with fail
  go_loopw [15] (fun i wr => ∃ k : Nat, k ≤ n0 ∧ k ≤ 60 ∧ i = .int .i64 (k : Int) ∧ PqI W g s wr) (fun i _ => 60 - (intOf i).toNat)
  case atStart => exact ⟨0, Nat.zero_le _, by omega, rfl, HI0.out⟩
  case round =>
    obtain ⟨k, hk, hk60, rfl, T, hS⟩ := hrel
    have HS := hide hS
    clear hS HI0
    by_cases hlt : k < n0
    · by_cases hl6 : k < 60
      · obtain ⟨B1, o1, rfl, x0, x1, hN⟩ := HA0.out.at_ k hlt
        have y0 := HS.out.kp.cell x0 fun f => f
        have y1 := HS.out.kp.cell x1 fun f => f
        have HX1 := hide x1
        have HNN : Hid (NN k ≤ 18446744073709551615) := hN
        clear x0 x1 hN
        go_upto_block 2 with fail
        clear y0
        go_cut [17] (fun v17 wx => PqI W g s wx)
        case first =>
          by_cases hkd : KK k = 1
          · have t1 : (KK k == 1) = true := by simp [hkd]
            clear hkd
            obtain ⟨U, hU⟩ : ∃ U, U = T.tick (NN k) := ⟨_, rfl⟩
            have HU := hide hU
            have HUO : Hid U.Ok := by rw [hU]; exact HS.out.ok.tick (NN k)
            clear hU
            go_wp2_with fail
            refine (ptick_any HS.out.pr (NN k) HNN.out).mono ?_
            rintro e w5 ⟨rfl, h5, k5⟩
            rw [← HU.out] at h5
            have HS5 := hide (HS.out.call h5 k5)
            clear y1 h5 k5
            go_upto_region 25 with (fail)
            refine wp_region_noPanic ?_
            refine HeldR.begin (S := fun w' => PqM W g s U T w') (t := 7) (by kernel_rfl) (HS5.out.no (Kp.refl No _).drew) (fun hHeld => ?_)
            refine HeldR.take (i := 0) (v := ?vtk0) (oi := ?otk0) ?htk0 (by kernel_rfl) (by kernel_rfl) (by kernel_rfl) (by kernel_rfl) (by kernel_rfl) (fun _ _ _ h => h) (Or.inl ⟨?wtk0, ?ytk0⟩) hHeld ?rtk0
            case htk0 => simp only [List.getElem?_toArray, List.getElem?_cons_zero, List.getElem?_cons_succ]; rfl
            case wtk0 => rfl
            case ytk0 =>
              intro w hSw
              (try dsimp only at hSw)
              have i0 := hSw.bx.c0
              have i1 := hSw.bx.c1
              have i2 := hSw.bx.c2
              have i3 := hSw.bx.c3
              go_simp
              try with_reducible rfl
            simp only [Act.put, List.setIfInBounds_toArray, List.set_cons_zero, List.set_cons_succ]
            refine HeldR.take (i := 1) (v := ?vtk1) (oi := ?otk1) ?htk1 (by kernel_rfl) (by kernel_rfl) (by kernel_rfl) (by kernel_rfl) (by kernel_rfl) (fun _ _ _ h => h) (Or.inl ⟨?wtk1, ?ytk1⟩) hHeld ?rtk1
            case htk1 => simp only [List.getElem?_toArray, List.getElem?_cons_zero, List.getElem?_cons_succ]; rfl
            case wtk1 => rfl
            case ytk1 => intro w hSw; (try dsimp only at hSw); go_simp; (try with_reducible rfl)
            simp only [Act.put, List.setIfInBounds_toArray, List.set_cons_zero, List.set_cons_succ]
            refine HeldR.take (i := 2) (v := ?vtk2) (oi := ?otk2) ?htk2 (by kernel_rfl) (by kernel_rfl) (by kernel_rfl) (by kernel_rfl) (by kernel_rfl) (fun _ _ _ h => h) (Or.inl ⟨?wtk2, ?ytk2⟩) hHeld ?rtk2
            case htk2 => simp only [List.getElem?_toArray, List.getElem?_cons_zero, List.getElem?_cons_succ]; rfl
            case wtk2 => rfl
            case ytk2 => intro w hSw; (try dsimp only at hSw); go_simp; (try with_reducible rfl)
            simp only [Act.put, List.setIfInBounds_toArray, List.set_cons_zero, List.set_cons_succ]
            refine HeldR.take (i := 3) (v := ?vtk3) (oi := ?otk3) ?htk3 (by kernel_rfl) (by kernel_rfl) (by kernel_rfl) (by kernel_rfl) (by kernel_rfl) (fun _ _ _ h => h) (Or.inl ⟨?wtk3, ?ytk3⟩) hHeld ?rtk3
            case htk3 => simp only [List.getElem?_toArray, List.getElem?_cons_zero, List.getElem?_cons_succ]; rfl
            case wtk3 => rfl
            case ytk3 => intro w hSw; (try dsimp only at hSw); go_simp; (try with_reducible rfl)
            simp only [Act.put, List.setIfInBounds_toArray, List.set_cons_zero, List.set_cons_succ]
            refine HeldR.take (i := 4) (v := ?vtk4) (oi := ?otk4) ?htk4 (by kernel_rfl) (by kernel_rfl) (by kernel_rfl) (by kernel_rfl) (by kernel_rfl) (fun _ _ _ h => h) (Or.inl ⟨?wtk4, ?ytk4⟩) hHeld ?rtk4
            case htk4 => simp only [List.getElem?_toArray, List.getElem?_cons_zero, List.getElem?_cons_succ]; rfl
            case wtk4 => rfl
            case ytk4 => intro w hSw; (try dsimp only at hSw); go_simp; (try with_reducible rfl)
            simp only [Act.put, List.setIfInBounds_toArray, List.set_cons_zero, List.set_cons_succ]
            refine HeldR.take (i := 5) (v := ?vtk5) (oi := ?otk5) ?htk5 (by kernel_rfl) (by kernel_rfl) (by kernel_rfl) (by kernel_rfl) (by kernel_rfl) (fun _ _ _ h => h) (Or.inl ⟨?wtk5, ?ytk5⟩) hHeld ?rtk5
            case htk5 => simp only [List.getElem?_toArray, List.getElem?_cons_zero, List.getElem?_cons_succ]; rfl
            case wtk5 => rfl
            case ytk5 =>
              intro w hSw
              (try dsimp only at hSw)
              have i0 := hSw.kp.cell HX1.out fun f => f
              go_simp
              try with_reducible rfl
            simp only [Act.put, List.setIfInBounds_toArray, List.set_cons_zero, List.set_cons_succ]
            refine HeldR.runS (i := 6) (o := ?otk6) ?htk6 (by kernel_rfl) (fun K hK => ?stk6)
            case htk6 => simp only [List.getElem?_toArray, List.getElem?_cons_zero, List.getElem?_cons_succ]; rfl
            go_simp
            refine (rtick_any _ HS.out.ok HNN.out).mono ?_
            rintro e w9 ⟨rfl, k9⟩
            rw [← HU.out]
            unfold puC id
            have z0 := (hHeld.bx.no k9).c0
            have z1 := (hHeld.bx.no k9).c1
            have z2 := (hHeld.bx.no k9).c2
            have z3 := (hHeld.bx.no k9).c3
            have f0 := (hHeld.bx.no k9).fz 0
            have f1 := (hHeld.bx.no k9).fz 1
            have f2 := (hHeld.bx.no k9).fz 2
            have f3 := (hHeld.bx.no k9).fz 3
            try go_simp
            refine hK.out _ _ (hHeld.no k9) (fun hHeld => ?_)
            clear hK K
            try simp only [Act.put, List.setIfInBounds_toArray, List.set_cons_zero, List.set_cons_succ]
            refine HeldR.runD (i := 7) (o := ?otk7) ?htk7 (by kernel_rfl) (by kernel_rfl) (fun K hK => ?stk7)
            case htk7 => simp only [List.getElem?_toArray, List.getElem?_cons_zero, List.getElem?_cons_succ]; rfl
            go_simp
            refine hK.out _ _ ?_
            clear hK K
            try simp only [Act.put, List.setIfInBounds_toArray, List.set_cons_zero, List.set_cons_succ]
            refine HeldR.done (by kernel_rfl) ?_ _
            refine NoPanic.normal ?_
            have hS9 : PqM W g s U U ((((w9.setCell ⟨s, 0, none⟩ (.int .u64 (U.rate : Int))).setCell ⟨s, 1, none⟩ (.int .u64 (U.burst : Int))).setCell ⟨s, 2, none⟩ (.int .u64 (U.level : Int))).setCell ⟨s, 3, none⟩ (.int .u64 (U.spent : Int))) := hHeld.write HUO.out
            have HS9 := hide hS9
            clear hS9 hHeld z0 f0 z1 f1 z2 f2 z3 f3
            generalize ((((w9.setCell ⟨s, 0, none⟩ (.int .u64 (U.rate : Int))).setCell ⟨s, 1, none⟩ (.int .u64 (U.burst : Int))).setCell ⟨s, 2, none⟩ (.int .u64 (U.level : Int))).setCell ⟨s, 3, none⟩ (.int .u64 (U.spent : Int))) = w10 at HS9 ⊢
            go_wp2_with fail
            go_meet
            exact ⟨U, HS9.out⟩
          · have t1 : (KK k == 1) = false := by simp [hkd]
            by_cases hkd2 : KK k = 2
            · have t2 : (KK k == 2) = true := by simp [hkd2]
              clear hkd hkd2
              obtain ⟨U, hU⟩ : ∃ U, U = T.back (NN k) := ⟨_, rfl⟩
              have HU := hide hU
              have HUO : Hid U.Ok := by rw [hU]; exact HS.out.ok.back (NN k)
              clear hU
              go_wp2_with fail
              refine (pback_any HS.out.pr (NN k) HNN.out).mono ?_
              rintro e w5 ⟨rfl, h5, k5⟩
              rw [← HU.out] at h5
              have HS5 := hide (HS.out.call h5 k5)
              clear y1 h5 k5
              go_upto_region 28 with (fail)
              refine wp_region_noPanic ?_
              refine HeldR.begin (S := fun w' => PqM W g s U T w') (t := 7) (by kernel_rfl) (HS5.out.no (Kp.refl No _).drew) (fun hHeld => ?_)
              refine HeldR.take (i := 0) (v := ?vbk0) (oi := ?obk0) ?hbk0 (by kernel_rfl) (by kernel_rfl) (by kernel_rfl) (by kernel_rfl) (by kernel_rfl) (fun _ _ _ h => h) (Or.inl ⟨?wbk0, ?ybk0⟩) hHeld ?rbk0
              case hbk0 => simp only [List.getElem?_toArray, List.getElem?_cons_zero, List.getElem?_cons_succ]; rfl
              case wbk0 => rfl
              case ybk0 =>
                intro w hSw
                (try dsimp only at hSw)
                have i0 := hSw.bx.c0
                have i1 := hSw.bx.c1
                have i2 := hSw.bx.c2
                have i3 := hSw.bx.c3
                go_simp
                try with_reducible rfl
              simp only [Act.put, List.setIfInBounds_toArray, List.set_cons_zero, List.set_cons_succ]
              refine HeldR.take (i := 1) (v := ?vbk1) (oi := ?obk1) ?hbk1 (by kernel_rfl) (by kernel_rfl) (by kernel_rfl) (by kernel_rfl) (by kernel_rfl) (fun _ _ _ h => h) (Or.inl ⟨?wbk1, ?ybk1⟩) hHeld ?rbk1
              case hbk1 => simp only [List.getElem?_toArray, List.getElem?_cons_zero, List.getElem?_cons_succ]; rfl
              case wbk1 => rfl
              case ybk1 => intro w hSw; (try dsimp only at hSw); go_simp; (try with_reducible rfl)
              simp only [Act.put, List.setIfInBounds_toArray, List.set_cons_zero, List.set_cons_succ]
              refine HeldR.take (i := 2) (v := ?vbk2) (oi := ?obk2) ?hbk2 (by kernel_rfl) (by kernel_rfl) (by kernel_rfl) (by kernel_rfl) (by kernel_rfl) (fun _ _ _ h => h) (Or.inl ⟨?wbk2, ?ybk2⟩) hHeld ?rbk2
              case hbk2 => simp only [List.getElem?_toArray, List.getElem?_cons_zero, List.getElem?_cons_succ]; rfl
              case wbk2 => rfl
              case ybk2 => intro w hSw; (try dsimp only at hSw); go_simp; (try with_reducible rfl)
              simp only [Act.put, List.setIfInBounds_toArray, List.set_cons_zero, List.set_cons_succ]
              refine HeldR.take (i := 3) (v := ?vbk3) (oi := ?obk3) ?hbk3 (by kernel_rfl) (by kernel_rfl) (by kernel_rfl) (by kernel_rfl) (by kernel_rfl) (fun _ _ _ h => h) (Or.inl ⟨?wbk3, ?ybk3⟩) hHeld ?rbk3
              case hbk3 => simp only [List.getElem?_toArray, List.getElem?_cons_zero, List.getElem?_cons_succ]; rfl
              case wbk3 => rfl
              case ybk3 => intro w hSw; (try dsimp only at hSw); go_simp; (try with_reducible rfl)
              simp only [Act.put, List.setIfInBounds_toArray, List.set_cons_zero, List.set_cons_succ]
              refine HeldR.take (i := 4) (v := ?vbk4) (oi := ?obk4) ?hbk4 (by kernel_rfl) (by kernel_rfl) (by kernel_rfl) (by kernel_rfl) (by kernel_rfl) (fun _ _ _ h => h) (Or.inl ⟨?wbk4, ?ybk4⟩) hHeld ?rbk4
              case hbk4 => simp only [List.getElem?_toArray, List.getElem?_cons_zero, List.getElem?_cons_succ]; rfl
              case wbk4 => rfl
              case ybk4 => intro w hSw; (try dsimp only at hSw); go_simp; (try with_reducible rfl)
              simp only [Act.put, List.setIfInBounds_toArray, List.set_cons_zero, List.set_cons_succ]
              refine HeldR.take (i := 5) (v := ?vbk5) (oi := ?obk5) ?hbk5 (by kernel_rfl) (by kernel_rfl) (by kernel_rfl) (by kernel_rfl) (by kernel_rfl) (fun _ _ _ h => h) (Or.inl ⟨?wbk5, ?ybk5⟩) hHeld ?rbk5
              case hbk5 => simp only [List.getElem?_toArray, List.getElem?_cons_zero, List.getElem?_cons_succ]; rfl
              case wbk5 => rfl
              case ybk5 =>
                intro w hSw
                (try dsimp only at hSw)
                have i0 := hSw.kp.cell HX1.out fun f => f
                go_simp
                try with_reducible rfl
              simp only [Act.put, List.setIfInBounds_toArray, List.set_cons_zero, List.set_cons_succ]
              refine HeldR.runS (i := 6) (o := ?obk6) ?hbk6 (by kernel_rfl) (fun K hK => ?sbk6)
              case hbk6 => simp only [List.getElem?_toArray, List.getElem?_cons_zero, List.getElem?_cons_succ]; rfl
              go_simp
              refine (rback_any _ HS.out.ok HNN.out).mono ?_
              rintro e w9 ⟨rfl, k9⟩
              rw [← HU.out]
              unfold puC id
              have z0 := (hHeld.bx.no k9).c0
              have z1 := (hHeld.bx.no k9).c1
              have z2 := (hHeld.bx.no k9).c2
              have z3 := (hHeld.bx.no k9).c3
              have f0 := (hHeld.bx.no k9).fz 0
              have f1 := (hHeld.bx.no k9).fz 1
              have f2 := (hHeld.bx.no k9).fz 2
              have f3 := (hHeld.bx.no k9).fz 3
              try go_simp
              refine hK.out _ _ (hHeld.no k9) (fun hHeld => ?_)
              clear hK K
              try simp only [Act.put, List.setIfInBounds_toArray, List.set_cons_zero, List.set_cons_succ]
              refine HeldR.runD (i := 7) (o := ?obk7) ?hbk7 (by kernel_rfl) (by kernel_rfl) (fun K hK => ?sbk7)
              case hbk7 => simp only [List.getElem?_toArray, List.getElem?_cons_zero, List.getElem?_cons_succ]; rfl
              go_simp
              refine hK.out _ _ ?_
              clear hK K
              try simp only [Act.put, List.setIfInBounds_toArray, List.set_cons_zero, List.set_cons_succ]
              refine HeldR.done (by kernel_rfl) ?_ _
              refine NoPanic.normal ?_
              have hS9 : PqM W g s U U ((((w9.setCell ⟨s, 0, none⟩ (.int .u64 (U.rate : Int))).setCell ⟨s, 1, none⟩ (.int .u64 (U.burst : Int))).setCell ⟨s, 2, none⟩ (.int .u64 (U.level : Int))).setCell ⟨s, 3, none⟩ (.int .u64 (U.spent : Int))) := hHeld.write HUO.out
              have HS9 := hide hS9
              clear hS9 hHeld z0 f0 z1 f1 z2 f2 z3 f3
              generalize ((((w9.setCell ⟨s, 0, none⟩ (.int .u64 (U.rate : Int))).setCell ⟨s, 1, none⟩ (.int .u64 (U.burst : Int))).setCell ⟨s, 2, none⟩ (.int .u64 (U.level : Int))).setCell ⟨s, 3, none⟩ (.int .u64 (U.spent : Int))) = w10 at HS9 ⊢
              go_wp2_with fail
              go_meet
              exact ⟨U, HS9.out⟩
            · have t2 : (KK k == 2) = false := by simp [hkd2]
              clear hkd hkd2
              obtain ⟨U, hU⟩ : ∃ U, U = T.spend (NN k) := ⟨_, rfl⟩
              obtain ⟨ok, hok⟩ : ∃ ok, ok = decide (NN k ≤ T.level) := ⟨_, rfl⟩
              have HU := hide hU
              have HOK := hide hok
              have HUO : Hid U.Ok := by rw [hU]; exact HS.out.ok.spend (NN k)
              clear hU hok
              go_upto_region 19 with fail
              clear y1
              go_cut [16, 17] (fun v16 v17 wx => ∃ q : Nat, v16 = .pointer (some ⟨q, 0, none⟩) ∧ v17 = .bool ok ∧ BxP wx q U ∧ q ≠ s ∧ q ≠ g ∧ PqM W g s T T wx)
              case first =>
                refine wp_region_noPanic ?_
                refine wp_region_held_drew (S := fun w' => PqM W g s T T w') (by kernel_rfl) (HS.out.no (Kp.refl No _).drew) (fun hHeld => ?_)
                refine wpAnyH_take (i := 0) (v := ?vspx1) (oi := ?ospx1) ?hspx1 (by kernel_rfl) (by kernel_rfl) (by kernel_rfl) (fun _ _ _ h => h) (Or.inl ⟨?wspx1, ?yspx1⟩) hHeld ?rspx1
                case hspx1 => simp only [List.getElem?_toArray, List.getElem?_cons_zero, List.getElem?_cons_succ]; rfl
                case wspx1 => rfl
                case yspx1 =>
                  intro w hSw
                  (try dsimp only at hSw)
                  have i0 := hSw.bx.c0
                  have i1 := hSw.bx.c1
                  have i2 := hSw.bx.c2
                  have i3 := hSw.bx.c3
                  go_simp
                  try with_reducible rfl
                simp only [Act.put, List.setIfInBounds_toArray, List.set_cons_zero, List.set_cons_succ]
                refine wpAnyH_take (i := 1) (v := ?vspx2) (oi := ?ospx2) ?hspx2 (by kernel_rfl) (by kernel_rfl) (by kernel_rfl) (fun _ _ _ h => h) (Or.inl ⟨?wspx2, ?yspx2⟩) hHeld ?rspx2
                case hspx2 => simp only [List.getElem?_toArray, List.getElem?_cons_zero, List.getElem?_cons_succ]; rfl
                case wspx2 => rfl
                case yspx2 => intro w hSw; (try dsimp only at hSw); go_simp; (try with_reducible rfl)
                simp only [Act.put, List.setIfInBounds_toArray, List.set_cons_zero, List.set_cons_succ]
                refine wpAnyH_take (i := 2) (v := ?vspx3) (oi := ?ospx3) ?hspx3 (by kernel_rfl) (by kernel_rfl) (by kernel_rfl) (fun _ _ _ h => h) (Or.inl ⟨?wspx3, ?yspx3⟩) hHeld ?rspx3
                case hspx3 => simp only [List.getElem?_toArray, List.getElem?_cons_zero, List.getElem?_cons_succ]; rfl
                case wspx3 => rfl
                case yspx3 => intro w hSw; (try dsimp only at hSw); go_simp; (try with_reducible rfl)
                simp only [Act.put, List.setIfInBounds_toArray, List.set_cons_zero, List.set_cons_succ]
                refine wpAnyH_take (i := 3) (v := ?vspx4) (oi := ?ospx4) ?hspx4 (by kernel_rfl) (by kernel_rfl) (by kernel_rfl) (fun _ _ _ h => h) (Or.inl ⟨?wspx4, ?yspx4⟩) hHeld ?rspx4
                case hspx4 => simp only [List.getElem?_toArray, List.getElem?_cons_zero, List.getElem?_cons_succ]; rfl
                case wspx4 => rfl
                case yspx4 => intro w hSw; (try dsimp only at hSw); go_simp; (try with_reducible rfl)
                simp only [Act.put, List.setIfInBounds_toArray, List.set_cons_zero, List.set_cons_succ]
                refine wpAnyH_take (i := 4) (v := ?vspx5) (oi := ?ospx5) ?hspx5 (by kernel_rfl) (by kernel_rfl) (by kernel_rfl) (fun _ _ _ h => h) (Or.inl ⟨?wspx5, ?yspx5⟩) hHeld ?rspx5
                case hspx5 => simp only [List.getElem?_toArray, List.getElem?_cons_zero, List.getElem?_cons_succ]; rfl
                case wspx5 => rfl
                case yspx5 => intro w hSw; (try dsimp only at hSw); go_simp; (try with_reducible rfl)
                simp only [Act.put, List.setIfInBounds_toArray, List.set_cons_zero, List.set_cons_succ]
                refine wpAnyH_take (i := 5) (v := ?vspx6) (oi := ?ospx6) ?hspx6 (by kernel_rfl) (by kernel_rfl) (by kernel_rfl) (fun _ _ _ h => h) (Or.inl ⟨?wspx6, ?yspx6⟩) hHeld ?rspx6
                case hspx6 => simp only [List.getElem?_toArray, List.getElem?_cons_zero, List.getElem?_cons_succ]; rfl
                case wspx6 => rfl
                case yspx6 =>
                  intro w hSw
                  (try dsimp only at hSw)
                  have i0 := hSw.kp.cell HX1.out fun f => f
                  go_simp
                  try with_reducible rfl
                simp only [Act.put, List.setIfInBounds_toArray, List.set_cons_zero, List.set_cons_succ]
                refine wpAnyH_ready (rs := [6, 10]) (by kernel_rfl) (by simp) ?_
                refine (AllReadyH.cons (o := ?ospx8) ?hspx8 (fun K hK => ?sspx8) (AllReadyH.cons (o := ?ospx9) ?hspx9 (fun K hK => ?sspx9) AllReadyH.nil))
                case hspx8 => simp only [List.getElem?_toArray, List.getElem?_cons_zero, List.getElem?_cons_succ]; rfl
                case hspx9 => simp only [List.getElem?_toArray, List.getElem?_cons_zero, List.getElem?_cons_succ]; rfl
                case sspx8 =>
                  go_simp
                  refine (rspend_any _ HS.out.ok (NN k)).mono ?_
                  rintro e w9 ⟨rfl, k9⟩
                  rw [← HU.out, ← HOK.out]
                  unfold puC
                  refine hK.out _ _ (hHeld.no k9) (fun hHeld => ?_)
                  clear hK K
                  try simp only [Act.put, List.setIfInBounds_toArray, List.set_cons_zero, List.set_cons_succ]
                  refine wpAnyH_take (i := 7) (v := ?vspx10) (oi := ?ospx10) ?hspx10 (by kernel_rfl) (by kernel_rfl) (by kernel_rfl) (fun _ _ _ h => h) (Or.inl ⟨?wspx10, ?yspx10⟩) hHeld ?rspx10
                  case hspx10 => simp only [List.getElem?_toArray, List.getElem?_cons_zero, List.getElem?_cons_succ]; rfl
                  case wspx10 => rfl
                  case yspx10 => intro w hSw; (try dsimp only at hSw); go_simp; (try with_reducible rfl)
                  simp only [Act.put, List.setIfInBounds_toArray, List.set_cons_zero, List.set_cons_succ]
                  refine wpAnyH_take (i := 8) (v := ?vspx11) (oi := ?ospx11) ?hspx11 (by kernel_rfl) (by kernel_rfl) (by kernel_rfl) (fun _ _ _ h => h) (Or.inl ⟨?wspx11, ?yspx11⟩) hHeld ?rspx11
                  case hspx11 => simp only [List.getElem?_toArray, List.getElem?_cons_zero, List.getElem?_cons_succ]; rfl
                  case wspx11 => rfl
                  case yspx11 => intro w hSw; (try dsimp only at hSw); go_simp; (try with_reducible rfl)
                  simp only [Act.put, List.setIfInBounds_toArray, List.set_cons_zero, List.set_cons_succ]
                  refine wpAnyH_take (i := 9) (v := ?vspx12) (oi := ?ospx12) ?hspx12 (by kernel_rfl) (by kernel_rfl) (by kernel_rfl) (fun _ _ _ h => h) (Or.inl ⟨?wspx12, ?yspx12⟩) hHeld ?rspx12
                  case hspx12 => simp only [List.getElem?_toArray, List.getElem?_cons_zero, List.getElem?_cons_succ]; rfl
                  case wspx12 => rfl
                  case yspx12 => intro w hSw; (try dsimp only at hSw); go_simp; (try with_reducible rfl)
                  simp only [Act.put, List.setIfInBounds_toArray, List.set_cons_zero, List.set_cons_succ]
                  refine wpAnyH_ready (rs := [10]) (by kernel_rfl) (by simp) ?_
                  refine AllReadyH.cons (o := ?ospx13) ?hspx13 (fun K hK => ?sspx13) AllReadyH.nil
                  case hspx13 => simp only [List.getElem?_toArray, List.getElem?_cons_zero, List.getElem?_cons_succ]; rfl
                  go_simp
                  have hkb := hHeld
                  refine hK.out _ _ (hHeld.no (Kp.alloc No _ _)) (fun hHeld => ?_)
                  clear hK K
                  try simp only [Act.put, List.setIfInBounds_toArray, List.set_cons_zero, List.set_cons_succ]
                  refine wpAnyH_ready (rs := [11]) (by kernel_rfl) (by simp) ?_
                  refine AllReadyH.cons (o := ?ospx14) ?hspx14 (fun K hK => ?sspx14) AllReadyH.nil
                  case hspx14 => simp only [List.getElem?_toArray, List.getElem?_cons_zero, List.getElem?_cons_succ]; rfl
                  go_simp
                  have hq5 : BxP (w9.alloc (.cells (puC U) 36)) w9.heap.size U := BxP.new w9 U
                  have hqs := hkb.bx.lt
                  have hqg := hkb.pr.lt
                  refine hK.out _ _ (hkb.no (Kp.alloc No _ _)) (fun hHeld => ?_)
                  clear hK K
                  try simp only [Act.put, List.setIfInBounds_toArray, List.set_cons_zero, List.set_cons_succ]
                  refine wpAnyH_take (i := 12) (v := ?vspx15) (oi := ?ospx15) ?hspx15 (by kernel_rfl) (by kernel_rfl) (by kernel_rfl) (fun _ _ _ h => h) (Or.inl ⟨?wspx15, ?yspx15⟩) hHeld ?rspx15
                  case hspx15 => simp only [List.getElem?_toArray, List.getElem?_cons_zero, List.getElem?_cons_succ]; rfl
                  case wspx15 => rfl
                  case yspx15 => intro w hSw; (try dsimp only at hSw); go_simp; (try with_reducible rfl)
                  simp only [Act.put, List.setIfInBounds_toArray, List.set_cons_zero, List.set_cons_succ]
                  refine wpAnyH_done (by kernel_rfl) ?_ _
                  refine NoPanic.normal ?_
                  go_wp2_with fail
                  go_meet
                  exact ⟨_, rfl, rfl, hq5, by omega, by omega, hHeld⟩
                case sspx9 =>
                  go_simp
                  have hq : BxP (wr.alloc (.cells (puC ⟨0, 0, 0, 0⟩) 36)).drew wr.heap.size ⟨0, 0, 0, 0⟩ := BxP.new wr ⟨0, 0, 0, 0⟩
                  have hqs : s < wr.heap.size := hHeld.bx.lt
                  have hqg : g < wr.heap.size := hHeld.pr.lt
                  have hqW : W.heap.size ≤ wr.heap.size := hHeld.kp.size
                  refine hK.out _ _ (hHeld.no (Kp.alloc No _ _)) (fun hHeld => ?_)
                  clear hK K
                  try simp only [Act.put, List.setIfInBounds_toArray, List.set_cons_zero, List.set_cons_succ]
                  refine wpAnyH_ready (rs := [6]) (by kernel_rfl) (by simp) ?_
                  refine AllReadyH.cons (o := ?ospx17) ?hspx17 (fun K hK => ?sspx17) AllReadyH.nil
                  case hspx17 => simp only [List.getElem?_toArray, List.getElem?_cons_zero, List.getElem?_cons_succ]; rfl
                  go_simp
                  refine (rspend_any _ HS.out.ok (NN k)).mono ?_
                  rintro e w9 ⟨rfl, k9⟩
                  rw [← HU.out, ← HOK.out]
                  unfold puC
                  have hq := hq.no k9
                  refine hK.out _ _ (hHeld.no k9) (fun hHeld => ?_)
                  clear hK K
                  try simp only [Act.put, List.setIfInBounds_toArray, List.set_cons_zero, List.set_cons_succ]
                  refine wpAnyH_take (i := 7) (v := ?vspx18) (oi := ?ospx18) ?hspx18 (by kernel_rfl) (by kernel_rfl) (by kernel_rfl) (fun _ _ _ h => h) (Or.inl ⟨?wspx18, ?yspx18⟩) hHeld ?rspx18
                  case hspx18 => simp only [List.getElem?_toArray, List.getElem?_cons_zero, List.getElem?_cons_succ]; rfl
                  case wspx18 => rfl
                  case yspx18 => intro w hSw; (try dsimp only at hSw); go_simp; (try with_reducible rfl)
                  simp only [Act.put, List.setIfInBounds_toArray, List.set_cons_zero, List.set_cons_succ]
                  refine wpAnyH_take (i := 8) (v := ?vspx19) (oi := ?ospx19) ?hspx19 (by kernel_rfl) (by kernel_rfl) (by kernel_rfl) (fun _ _ _ h => h) (Or.inl ⟨?wspx19, ?yspx19⟩) hHeld ?rspx19
                  case hspx19 => simp only [List.getElem?_toArray, List.getElem?_cons_zero, List.getElem?_cons_succ]; rfl
                  case wspx19 => rfl
                  case yspx19 => intro w hSw; (try dsimp only at hSw); go_simp; (try with_reducible rfl)
                  simp only [Act.put, List.setIfInBounds_toArray, List.set_cons_zero, List.set_cons_succ]
                  refine wpAnyH_take (i := 9) (v := ?vspx20) (oi := ?ospx20) ?hspx20 (by kernel_rfl) (by kernel_rfl) (by kernel_rfl) (fun _ _ _ h => h) (Or.inl ⟨?wspx20, ?yspx20⟩) hHeld ?rspx20
                  case hspx20 => simp only [List.getElem?_toArray, List.getElem?_cons_zero, List.getElem?_cons_succ]; rfl
                  case wspx20 => rfl
                  case yspx20 => intro w hSw; (try dsimp only at hSw); go_simp; (try with_reducible rfl)
                  simp only [Act.put, List.setIfInBounds_toArray, List.set_cons_zero, List.set_cons_succ]
                  refine wpAnyH_ready (rs := [11]) (by kernel_rfl) (by simp) ?_
                  refine AllReadyH.cons (o := ?ospx21) ?hspx21 (fun K hK => ?sspx21) AllReadyH.nil
                  case hspx21 => simp only [List.getElem?_toArray, List.getElem?_cons_zero, List.getElem?_cons_succ]; rfl
                  go_simp
                  have z0 := hq.c0
                  have z1 := hq.c1
                  have z2 := hq.c2
                  have z3 := hq.c3
                  have f0 := hq.fz 0
                  have f1 := hq.fz 1
                  have f2 := hq.fz 2
                  have f3 := hq.fz 3
                  go_simp
                  have hq5 := hq.set4 U
                  clear z0 f0 z1 f1 z2 f2 z3 f3
                  refine hK.out _ _ (hHeld.far (by omega) (by omega) hqW _ _ _ _) (fun hHeld => ?_)
                  clear hK K
                  try simp only [Act.put, List.setIfInBounds_toArray, List.set_cons_zero, List.set_cons_succ]
                  refine wpAnyH_take (i := 12) (v := ?vspx22) (oi := ?ospx22) ?hspx22 (by kernel_rfl) (by kernel_rfl) (by kernel_rfl) (fun _ _ _ h => h) (Or.inl ⟨?wspx22, ?yspx22⟩) hHeld ?rspx22
                  case hspx22 => simp only [List.getElem?_toArray, List.getElem?_cons_zero, List.getElem?_cons_succ]; rfl
                  case wspx22 => rfl
                  case yspx22 => intro w hSw; (try dsimp only at hSw); go_simp; (try with_reducible rfl)
                  simp only [Act.put, List.setIfInBounds_toArray, List.set_cons_zero, List.set_cons_succ]
                  refine wpAnyH_done (by kernel_rfl) ?_ _
                  refine NoPanic.normal ?_
                  go_wp2_with fail
                  go_meet
                  exact ⟨_, rfl, rfl, hq5, by omega, by omega, hHeld⟩
              case rest =>
                obtain ⟨q, rfl, rfl, hq, hqs, hqg, hS9⟩ := hcut
                have HQ := hide hq
                have HQG : Hid (q ≠ g) := hqg
                have HS9 := hide hS9
                clear hq hS9 hqg
                have q0 := HQ.out.c0
                have q1 := HQ.out.c1
                have q2 := HQ.out.c2
                have q3 := HQ.out.c3
                have z0 := HS9.out.bx.c0
                have z1 := HS9.out.bx.c1
                have z2 := HS9.out.bx.c2
                have z3 := HS9.out.bx.c3
                have f0 := HS9.out.bx.fz 0
                have f1 := HS9.out.bx.fz 1
                have f2 := HS9.out.bx.fz 2
                have f3 := HS9.out.bx.fz 3
                go_upto_region 21 with fail
                have hS8 : PqM W g s T U ((((wc.setCell ⟨s, 0, none⟩ (.int .u64 (U.rate : Int))).setCell ⟨s, 1, none⟩ (.int .u64 (U.burst : Int))).setCell ⟨s, 2, none⟩ (.int .u64 (U.level : Int))).setCell ⟨s, 3, none⟩ (.int .u64 (U.spent : Int))) := HS9.out.write HUO.out
                have HS8 := hide hS8
                clear hS8 HQ HS9 q0 z0 f0 q1 z1 f1 q2 z2 f2 q3 z3 f3
                generalize ((((wc.setCell ⟨s, 0, none⟩ (.int .u64 (U.rate : Int))).setCell ⟨s, 1, none⟩ (.int .u64 (U.burst : Int))).setCell ⟨s, 2, none⟩ (.int .u64 (U.level : Int))).setCell ⟨s, 3, none⟩ (.int .u64 (U.spent : Int))) = w8 at HS8 ⊢
                have y1 := HS8.out.kp.cell HX1.out fun f => f
                go_wp2_with fail
                refine (pspend_any HS8.out.pr (NN k)).mono ?_
                rintro e w5 ⟨rfl, h5, k5⟩
                rw [← HU.out] at h5
                rw [← HOK.out]
                have HS5 := hide (HS8.out.call h5 k5)
                clear y1 h5 k5
                cases ok
                · go_wp2_with fail
                  go_meet
                  exact ⟨U, HS5.out⟩
                · go_wp2_with fail
                  go_meet
                  exact ⟨U, HS5.out⟩
        case rest =>
          clear HS y1 HX1 HNN T
          obtain ⟨T, hS⟩ := hcut
          have HS := hide hS
          clear hS
          go_upto_region 29 with fail
          refine wp_region_noPanic ?_
          refine wp_region_held_drew (S := fun w' => PqM W g s T T w') (by kernel_rfl) (HS.out.no (Kp.refl No _).drew) (fun hHeld => ?_)
          refine wpAnyH_take (i := 0) (v := ?vrsx1) (oi := ?orsx1) ?hrsx1 (by kernel_rfl) (by kernel_rfl) (by kernel_rfl) (fun _ _ _ h => h) (Or.inl ⟨?wrsx1, ?yrsx1⟩) hHeld ?rrsx1
          case hrsx1 => simp only [List.getElem?_toArray, List.getElem?_cons_zero, List.getElem?_cons_succ]; rfl
          case wrsx1 => rfl
          case yrsx1 => intro w hSw; (try dsimp only at hSw); go_simp; (try with_reducible rfl)
          simp only [Act.put, List.setIfInBounds_toArray, List.set_cons_zero, List.set_cons_succ]
          refine wpAnyH_take (i := 2) (v := ?vrsx2) (oi := ?orsx2) ?hrsx2 (by kernel_rfl) (by kernel_rfl) (by kernel_rfl) (fun _ _ _ h => h) (Or.inl ⟨?wrsx2, ?yrsx2⟩) hHeld ?rrsx2
          case hrsx2 => simp only [List.getElem?_toArray, List.getElem?_cons_zero, List.getElem?_cons_succ]; rfl
          case wrsx2 => rfl
          case yrsx2 => intro w hSw; (try dsimp only at hSw); go_simp; (try with_reducible rfl)
          simp only [Act.put, List.setIfInBounds_toArray, List.set_cons_zero, List.set_cons_succ]
          refine wpAnyH_take (i := 3) (v := ?vrsx3) (oi := ?orsx3) ?hrsx3 (by kernel_rfl) (by kernel_rfl) (by kernel_rfl) (fun _ _ _ h => h) (Or.inl ⟨?wrsx3, ?yrsx3⟩) hHeld ?rrsx3
          case hrsx3 => simp only [List.getElem?_toArray, List.getElem?_cons_zero, List.getElem?_cons_succ]; rfl
          case wrsx3 => rfl
          case yrsx3 =>
            intro w hSw
            (try dsimp only at hSw)
            have i0 := hSw.bx.c2
            go_simp
            try with_reducible rfl
          simp only [Act.put, List.setIfInBounds_toArray, List.set_cons_zero, List.set_cons_succ]
          refine wpAnyH_ready (rs := [1]) (by kernel_rfl) (by simp) ?_
          refine AllReadyH.cons (o := ?orsx4) ?hrsx4 (fun K hK => ?srsx4) AllReadyH.nil
          case hrsx4 => simp only [List.getElem?_toArray, List.getElem?_cons_zero, List.getElem?_cons_succ]; rfl
          go_simp
          refine (plevel_any hHeld.pr).mono ?_
          rintro e w9 ⟨rfl, rfl⟩
          refine hK.out _ _ (hHeld) (fun hHeld => ?_)
          clear hK K
          try simp only [Act.put, List.setIfInBounds_toArray, List.set_cons_zero, List.set_cons_succ]
          refine wpAnyH_take (i := 4) (v := ?vrsx5) (oi := ?orsx5) ?hrsx5 (by kernel_rfl) (by kernel_rfl) (by kernel_rfl) (fun _ _ _ h => h) (Or.inl ⟨?wrsx5, ?yrsx5⟩) hHeld ?rrsx5
          case hrsx5 => simp only [List.getElem?_toArray, List.getElem?_cons_zero, List.getElem?_cons_succ]; rfl
          case wrsx5 => rfl
          case yrsx5 => intro w hSw; (try dsimp only at hSw); go_simp; (try with_reducible rfl)
          simp only [Act.put, List.setIfInBounds_toArray, List.set_cons_zero, List.set_cons_succ]
          refine wpAnyH_take (i := 5) (v := ?vrsx6) (oi := ?orsx6) ?hrsx6 (by kernel_rfl) (by kernel_rfl) (by kernel_rfl) (fun _ _ _ h => h) (Or.inl ⟨?wrsx6, ?yrsx6⟩) hHeld ?rrsx6
          case hrsx6 => simp only [List.getElem?_toArray, List.getElem?_cons_zero, List.getElem?_cons_succ]; rfl
          case wrsx6 => rfl
          case yrsx6 => intro w hSw; (try dsimp only at hSw); go_simp; (try with_reducible rfl)
          simp only [Act.put, List.setIfInBounds_toArray, List.set_cons_zero, List.set_cons_succ]
          refine wpAnyH_take (i := 6) (v := ?vrsx7) (oi := ?orsx7) ?hrsx7 (by kernel_rfl) (by kernel_rfl) (by kernel_rfl) (fun _ _ _ h => h) (Or.inl ⟨?wrsx7, ?yrsx7⟩) hHeld ?rrsx7
          case hrsx7 => simp only [List.getElem?_toArray, List.getElem?_cons_zero, List.getElem?_cons_succ]; rfl
          case wrsx7 => rfl
          case yrsx7 => intro w hSw; (try dsimp only at hSw); go_simp; (try with_reducible rfl)
          simp only [Act.put, List.setIfInBounds_toArray, List.set_cons_zero, List.set_cons_succ]
          refine wpAnyH_take (i := 8) (v := ?vrsx8) (oi := ?orsx8) ?hrsx8 (by kernel_rfl) (by kernel_rfl) (by kernel_rfl) (fun _ _ _ h => h) (Or.inl ⟨?wrsx8, ?yrsx8⟩) hHeld ?rrsx8
          case hrsx8 => simp only [List.getElem?_toArray, List.getElem?_cons_zero, List.getElem?_cons_succ]; rfl
          case wrsx8 => rfl
          case yrsx8 => intro w hSw; (try dsimp only at hSw); go_simp; (try with_reducible rfl)
          simp only [Act.put, List.setIfInBounds_toArray, List.set_cons_zero, List.set_cons_succ]
          refine wpAnyH_take (i := 9) (v := ?vrsx9) (oi := ?orsx9) ?hrsx9 (by kernel_rfl) (by kernel_rfl) (by kernel_rfl) (fun _ _ _ h => h) (Or.inl ⟨?wrsx9, ?yrsx9⟩) hHeld ?rrsx9
          case hrsx9 => simp only [List.getElem?_toArray, List.getElem?_cons_zero, List.getElem?_cons_succ]; rfl
          case wrsx9 => rfl
          case yrsx9 =>
            intro w hSw
            (try dsimp only at hSw)
            have i0 := hSw.bx.c3
            go_simp
            try with_reducible rfl
          simp only [Act.put, List.setIfInBounds_toArray, List.set_cons_zero, List.set_cons_succ]
          refine wpAnyH_ready (rs := [7]) (by kernel_rfl) (by simp) ?_
          refine AllReadyH.cons (o := ?orsx10) ?hrsx10 (fun K hK => ?srsx10) AllReadyH.nil
          case hrsx10 => simp only [List.getElem?_toArray, List.getElem?_cons_zero, List.getElem?_cons_succ]; rfl
          go_simp
          refine (pspent_any hHeld.pr).mono ?_
          rintro e w9 ⟨rfl, rfl⟩
          refine hK.out _ _ (hHeld) (fun hHeld => ?_)
          clear hK K
          try simp only [Act.put, List.setIfInBounds_toArray, List.set_cons_zero, List.set_cons_succ]
          refine wpAnyH_take (i := 10) (v := ?vrsx11) (oi := ?orsx11) ?hrsx11 (by kernel_rfl) (by kernel_rfl) (by kernel_rfl) (fun _ _ _ h => h) (Or.inl ⟨?wrsx11, ?yrsx11⟩) hHeld ?rrsx11
          case hrsx11 => simp only [List.getElem?_toArray, List.getElem?_cons_zero, List.getElem?_cons_succ]; rfl
          case wrsx11 => rfl
          case yrsx11 => intro w hSw; (try dsimp only at hSw); go_simp; (try with_reducible rfl)
          simp only [Act.put, List.setIfInBounds_toArray, List.set_cons_zero, List.set_cons_succ]
          refine wpAnyH_take (i := 11) (v := ?vrsx12) (oi := ?orsx12) ?hrsx12 (by kernel_rfl) (by kernel_rfl) (by kernel_rfl) (fun _ _ _ h => h) (Or.inl ⟨?wrsx12, ?yrsx12⟩) hHeld ?rrsx12
          case hrsx12 => simp only [List.getElem?_toArray, List.getElem?_cons_zero, List.getElem?_cons_succ]; rfl
          case wrsx12 => rfl
          case yrsx12 => intro w hSw; (try dsimp only at hSw); go_simp; (try with_reducible rfl)
          simp only [Act.put, List.setIfInBounds_toArray, List.set_cons_zero, List.set_cons_succ]
          refine wpAnyH_done (by kernel_rfl) ?_ _
          refine NoPanic.normal ?_
          have HS9 := hide hHeld
          clear hHeld
          go_wp2_with fail
          go_round
          case rel => exact ⟨k + 1, by omega, by omega, by go_num, ⟨T, HS9.out⟩⟩
          case measure => simp [intOf]; omega
      · obtain rfl : k = 60 := by omega
        go_upto_region 31 with fail
        refine wp_region_noPanic ?_
        refine wp_region_held_drew (S := fun w' => PqM W g s T T w') (by kernel_rfl) (HS.out.no (Kp.refl No _).drew) (fun hHeld => ?_)
        refine wpAnyH_take (i := 0) (v := ?vewx1) (oi := ?oewx1) ?hewx1 (by kernel_rfl) (by kernel_rfl) (by kernel_rfl) (fun _ _ _ h => h) (Or.inl ⟨?wewx1, ?yewx1⟩) hHeld ?rewx1
        case hewx1 => simp only [List.getElem?_toArray, List.getElem?_cons_zero, List.getElem?_cons_succ]; rfl
        case wewx1 => rfl
        case yewx1 => intro w hSw; (try dsimp only at hSw); go_simp; (try with_reducible rfl)
        simp only [Act.put, List.setIfInBounds_toArray, List.set_cons_zero, List.set_cons_succ]
        refine wpAnyH_take (i := 1) (v := ?vewx2) (oi := ?oewx2) ?hewx2 (by kernel_rfl) (by kernel_rfl) (by kernel_rfl) (fun _ _ _ h => h) (Or.inl ⟨?wewx2, ?yewx2⟩) hHeld ?rewx2
        case hewx2 => simp only [List.getElem?_toArray, List.getElem?_cons_zero, List.getElem?_cons_succ]; rfl
        case wewx2 => rfl
        case yewx2 => intro w hSw; (try dsimp only at hSw); go_simp; (try with_reducible rfl)
        simp only [Act.put, List.setIfInBounds_toArray, List.set_cons_zero, List.set_cons_succ]
        refine wpAnyH_take (i := 3) (v := ?vewx3) (oi := ?oewx3) ?hewx3 (by kernel_rfl) (by kernel_rfl) (by kernel_rfl) (fun _ _ _ h => h) (Or.inl ⟨?wewx3, ?yewx3⟩) hHeld ?rewx3
        case hewx3 => simp only [List.getElem?_toArray, List.getElem?_cons_zero, List.getElem?_cons_succ]; rfl
        case wewx3 => rfl
        case yewx3 =>
          intro w hSw
          (try dsimp only at hSw)
          have i0 := hSw.bx.c0
          have i1 := hSw.bx.c1
          have i2 := hSw.bx.c2
          have i3 := hSw.bx.c3
          go_simp
          try with_reducible rfl
        simp only [Act.put, List.setIfInBounds_toArray, List.set_cons_zero, List.set_cons_succ]
        refine wpAnyH_take (i := 4) (v := ?vewx4) (oi := ?oewx4) ?hewx4 (by kernel_rfl) (by kernel_rfl) (by kernel_rfl) (fun _ _ _ h => h) (Or.inl ⟨?wewx4, ?yewx4⟩) hHeld ?rewx4
        case hewx4 => simp only [List.getElem?_toArray, List.getElem?_cons_zero, List.getElem?_cons_succ]; rfl
        case wewx4 => rfl
        case yewx4 => intro w hSw; (try dsimp only at hSw); go_simp; (try with_reducible rfl)
        simp only [Act.put, List.setIfInBounds_toArray, List.set_cons_zero, List.set_cons_succ]
        refine wpAnyH_ready (rs := [2]) (by kernel_rfl) (by simp) ?_
        refine AllReadyH.cons (o := ?oewx5) ?hewx5 (fun K hK => ?sewx5) AllReadyH.nil
        case hewx5 => simp only [List.getElem?_toArray, List.getElem?_cons_zero, List.getElem?_cons_succ]; rfl
        go_simp
        refine (pbound_any hHeld.pr n HN.out).mono ?_
        rintro e w8 ⟨rfl, k8⟩
        refine hK.out _ _ (hHeld.no k8) (fun hHeld => ?_)
        clear hK K
        try simp only [Act.put, List.setIfInBounds_toArray, List.set_cons_zero, List.set_cons_succ]
        refine wpAnyH_ready (rs := [5]) (by kernel_rfl) (by simp) ?_
        refine AllReadyH.cons (o := ?oewx6) ?hewx6 (fun K hK => ?sewx6) AllReadyH.nil
        case hewx6 => simp only [List.getElem?_toArray, List.getElem?_cons_zero, List.getElem?_cons_succ]; rfl
        go_simp
        refine (rbound_any _ hHeld.ok n HN.out).mono ?_
        rintro e w9 ⟨rfl, k9⟩
        refine hK.out _ _ (hHeld.no k9) (fun hHeld => ?_)
        clear hK K
        try simp only [Act.put, List.setIfInBounds_toArray, List.set_cons_zero, List.set_cons_succ]
        refine wpAnyH_take (i := 6) (v := ?vewx7) (oi := ?oewx7) ?hewx7 (by kernel_rfl) (by kernel_rfl) (by kernel_rfl) (fun _ _ _ h => h) (Or.inl ⟨?wewx7, ?yewx7⟩) hHeld ?rewx7
        case hewx7 => simp only [List.getElem?_toArray, List.getElem?_cons_zero, List.getElem?_cons_succ]; rfl
        case wewx7 => rfl
        case yewx7 => intro w hSw; (try dsimp only at hSw); go_simp; (try with_reducible rfl)
        simp only [Act.put, List.setIfInBounds_toArray, List.set_cons_zero, List.set_cons_succ]
        refine wpAnyH_take (i := 7) (v := ?vewx8) (oi := ?oewx8) ?hewx8 (by kernel_rfl) (by kernel_rfl) (by kernel_rfl) (fun _ _ _ h => h) (Or.inl ⟨?wewx8, ?yewx8⟩) hHeld ?rewx8
        case hewx8 => simp only [List.getElem?_toArray, List.getElem?_cons_zero, List.getElem?_cons_succ]; rfl
        case wewx8 => rfl
        case yewx8 => intro w hSw; (try dsimp only at hSw); go_simp; (try with_reducible rfl)
        simp only [Act.put, List.setIfInBounds_toArray, List.set_cons_zero, List.set_cons_succ]
        refine wpAnyH_ready (rs := [8]) (by kernel_rfl) (by simp) ?_
        refine AllReadyH.cons (o := ?oewx9) ?hewx9 (fun K hK => ?sewx9) AllReadyH.nil
        case hewx9 => simp only [List.getElem?_toArray, List.getElem?_cons_zero, List.getElem?_cons_succ]; rfl
        go_simp
        refine (awake18_any _).mono ?_
        rintro e w10 ⟨rfl, k10⟩
        refine hK.out _ _ (hHeld.no k10) (fun hHeld => ?_)
        clear hK K
        try simp only [Act.put, List.setIfInBounds_toArray, List.set_cons_zero, List.set_cons_succ]
        refine wpAnyH_take (i := 9) (v := ?vewx10) (oi := ?oewx10) ?hewx10 (by kernel_rfl) (by kernel_rfl) (by kernel_rfl) (fun _ _ _ h => h) (Or.inl ⟨?wewx10, ?yewx10⟩) hHeld ?rewx10
        case hewx10 => simp only [List.getElem?_toArray, List.getElem?_cons_zero, List.getElem?_cons_succ]; rfl
        case wewx10 => rfl
        case yewx10 => intro w hSw; (try dsimp only at hSw); go_simp; (try with_reducible rfl)
        simp only [Act.put, List.setIfInBounds_toArray, List.set_cons_zero, List.set_cons_succ]
        refine wpAnyH_take (i := 10) (v := ?vewx11) (oi := ?oewx11) ?hewx11 (by kernel_rfl) (by kernel_rfl) (by kernel_rfl) (fun _ _ _ h => h) (Or.inl ⟨?wewx11, ?yewx11⟩) hHeld ?rewx11
        case hewx11 => simp only [List.getElem?_toArray, List.getElem?_cons_zero, List.getElem?_cons_succ]; rfl
        case wewx11 => rfl
        case yewx11 => intro w hSw; (try dsimp only at hSw); go_simp; (try with_reducible rfl)
        simp only [Act.put, List.setIfInBounds_toArray, List.set_cons_zero, List.set_cons_succ]
        refine wpAnyH_done (by kernel_rfl) ?_ _
        refine NoPanic.normal ?_
        have HS9 := hide hHeld
        clear hHeld
        go_wp2_with fail
        go_ret
        exact ⟨rfl, HS9.out.kp⟩
    · obtain rfl : k = n0 := by omega
      have hk6 : k < 60 ∨ k = 60 := by omega
      go_upto_region 31 with fail
      refine wp_region_noPanic ?_
      refine wp_region_held_drew (S := fun w' => PqM W g s T T w') (by kernel_rfl) (HS.out.no (Kp.refl No _).drew) (fun hHeld => ?_)
      refine wpAnyH_take (i := 0) (v := ?vevx1) (oi := ?oevx1) ?hevx1 (by kernel_rfl) (by kernel_rfl) (by kernel_rfl) (fun _ _ _ h => h) (Or.inl ⟨?wevx1, ?yevx1⟩) hHeld ?revx1
      case hevx1 => simp only [List.getElem?_toArray, List.getElem?_cons_zero, List.getElem?_cons_succ]; rfl
      case wevx1 => rfl
      case yevx1 => intro w hSw; (try dsimp only at hSw); go_simp; (try with_reducible rfl)
      simp only [Act.put, List.setIfInBounds_toArray, List.set_cons_zero, List.set_cons_succ]
      refine wpAnyH_take (i := 1) (v := ?vevx2) (oi := ?oevx2) ?hevx2 (by kernel_rfl) (by kernel_rfl) (by kernel_rfl) (fun _ _ _ h => h) (Or.inl ⟨?wevx2, ?yevx2⟩) hHeld ?revx2
      case hevx2 => simp only [List.getElem?_toArray, List.getElem?_cons_zero, List.getElem?_cons_succ]; rfl
      case wevx2 => rfl
      case yevx2 => intro w hSw; (try dsimp only at hSw); go_simp; (try with_reducible rfl)
      simp only [Act.put, List.setIfInBounds_toArray, List.set_cons_zero, List.set_cons_succ]
      refine wpAnyH_take (i := 3) (v := ?vevx3) (oi := ?oevx3) ?hevx3 (by kernel_rfl) (by kernel_rfl) (by kernel_rfl) (fun _ _ _ h => h) (Or.inl ⟨?wevx3, ?yevx3⟩) hHeld ?revx3
      case hevx3 => simp only [List.getElem?_toArray, List.getElem?_cons_zero, List.getElem?_cons_succ]; rfl
      case wevx3 => rfl
      case yevx3 =>
        intro w hSw
        (try dsimp only at hSw)
        have i0 := hSw.bx.c0
        have i1 := hSw.bx.c1
        have i2 := hSw.bx.c2
        have i3 := hSw.bx.c3
        go_simp
        try with_reducible rfl
      simp only [Act.put, List.setIfInBounds_toArray, List.set_cons_zero, List.set_cons_succ]
      refine wpAnyH_take (i := 4) (v := ?vevx4) (oi := ?oevx4) ?hevx4 (by kernel_rfl) (by kernel_rfl) (by kernel_rfl) (fun _ _ _ h => h) (Or.inl ⟨?wevx4, ?yevx4⟩) hHeld ?revx4
      case hevx4 => simp only [List.getElem?_toArray, List.getElem?_cons_zero, List.getElem?_cons_succ]; rfl
      case wevx4 => rfl
      case yevx4 => intro w hSw; (try dsimp only at hSw); go_simp; (try with_reducible rfl)
      simp only [Act.put, List.setIfInBounds_toArray, List.set_cons_zero, List.set_cons_succ]
      refine wpAnyH_ready (rs := [2]) (by kernel_rfl) (by simp) ?_
      refine AllReadyH.cons (o := ?oevx5) ?hevx5 (fun K hK => ?sevx5) AllReadyH.nil
      case hevx5 => simp only [List.getElem?_toArray, List.getElem?_cons_zero, List.getElem?_cons_succ]; rfl
      go_simp
      refine (pbound_any hHeld.pr n HN.out).mono ?_
      rintro e w8 ⟨rfl, k8⟩
      refine hK.out _ _ (hHeld.no k8) (fun hHeld => ?_)
      clear hK K
      try simp only [Act.put, List.setIfInBounds_toArray, List.set_cons_zero, List.set_cons_succ]
      refine wpAnyH_ready (rs := [5]) (by kernel_rfl) (by simp) ?_
      refine AllReadyH.cons (o := ?oevx6) ?hevx6 (fun K hK => ?sevx6) AllReadyH.nil
      case hevx6 => simp only [List.getElem?_toArray, List.getElem?_cons_zero, List.getElem?_cons_succ]; rfl
      go_simp
      refine (rbound_any _ hHeld.ok n HN.out).mono ?_
      rintro e w9 ⟨rfl, k9⟩
      refine hK.out _ _ (hHeld.no k9) (fun hHeld => ?_)
      clear hK K
      try simp only [Act.put, List.setIfInBounds_toArray, List.set_cons_zero, List.set_cons_succ]
      refine wpAnyH_take (i := 6) (v := ?vevx7) (oi := ?oevx7) ?hevx7 (by kernel_rfl) (by kernel_rfl) (by kernel_rfl) (fun _ _ _ h => h) (Or.inl ⟨?wevx7, ?yevx7⟩) hHeld ?revx7
      case hevx7 => simp only [List.getElem?_toArray, List.getElem?_cons_zero, List.getElem?_cons_succ]; rfl
      case wevx7 => rfl
      case yevx7 => intro w hSw; (try dsimp only at hSw); go_simp; (try with_reducible rfl)
      simp only [Act.put, List.setIfInBounds_toArray, List.set_cons_zero, List.set_cons_succ]
      refine wpAnyH_take (i := 7) (v := ?vevx8) (oi := ?oevx8) ?hevx8 (by kernel_rfl) (by kernel_rfl) (by kernel_rfl) (fun _ _ _ h => h) (Or.inl ⟨?wevx8, ?yevx8⟩) hHeld ?revx8
      case hevx8 => simp only [List.getElem?_toArray, List.getElem?_cons_zero, List.getElem?_cons_succ]; rfl
      case wevx8 => rfl
      case yevx8 => intro w hSw; (try dsimp only at hSw); go_simp; (try with_reducible rfl)
      simp only [Act.put, List.setIfInBounds_toArray, List.set_cons_zero, List.set_cons_succ]
      refine wpAnyH_ready (rs := [8]) (by kernel_rfl) (by simp) ?_
      refine AllReadyH.cons (o := ?oevx9) ?hevx9 (fun K hK => ?sevx9) AllReadyH.nil
      case hevx9 => simp only [List.getElem?_toArray, List.getElem?_cons_zero, List.getElem?_cons_succ]; rfl
      go_simp
      refine (awake18_any _).mono ?_
      rintro e w10 ⟨rfl, k10⟩
      refine hK.out _ _ (hHeld.no k10) (fun hHeld => ?_)
      clear hK K
      try simp only [Act.put, List.setIfInBounds_toArray, List.set_cons_zero, List.set_cons_succ]
      refine wpAnyH_take (i := 9) (v := ?vevx10) (oi := ?oevx10) ?hevx10 (by kernel_rfl) (by kernel_rfl) (by kernel_rfl) (fun _ _ _ h => h) (Or.inl ⟨?wevx10, ?yevx10⟩) hHeld ?revx10
      case hevx10 => simp only [List.getElem?_toArray, List.getElem?_cons_zero, List.getElem?_cons_succ]; rfl
      case wevx10 => rfl
      case yevx10 => intro w hSw; (try dsimp only at hSw); go_simp; (try with_reducible rfl)
      simp only [Act.put, List.setIfInBounds_toArray, List.set_cons_zero, List.set_cons_succ]
      refine wpAnyH_take (i := 10) (v := ?vevx11) (oi := ?oevx11) ?hevx11 (by kernel_rfl) (by kernel_rfl) (by kernel_rfl) (fun _ _ _ h => h) (Or.inl ⟨?wevx11, ?yevx11⟩) hHeld ?revx11
      case hevx11 => simp only [List.getElem?_toArray, List.getElem?_cons_zero, List.getElem?_cons_succ]; rfl
      case wevx11 => rfl
      case yevx11 => intro w hSw; (try dsimp only at hSw); go_simp; (try with_reducible rfl)
      simp only [Act.put, List.setIfInBounds_toArray, List.set_cons_zero, List.set_cons_succ]
      refine wpAnyH_done (by kernel_rfl) ?_ _
      refine NoPanic.normal ?_
      have HS9 := hide hHeld
      clear hHeld
      go_wp2_with fail
      go_ret
      exact ⟨rfl, HS9.out.kp⟩
theorem purseplays_walk (W : World) (r b n : Int) (hr : (Lit.int .u64 r).wf = true) (hb : (Lit.int .u64 b).wf = true) (hn : (Lit.int .u64 n).wf = true) {A0 : Option Addr} {n0 c0 : Nat} {KK : Nat → Int} {NN : Nat → Nat} (h0 : ActsQ W A0 n0 KK NN) :
    Calls Try.prog 3 #[.int .u64 r, .int .u64 b, .slice A0 n0 c0, .int .u64 n] W fun e W' => e = .returned (.bool true) ∧ Below W.heap.size W W' := by
  have h1 := bounds_u64 hr
  have h2 := bounds_u64 hb
  have h3 := bounds_u64 hn
  obtain ⟨r', rfl⟩ : ∃ y : Nat, r = y := ⟨r.toNat, by omega⟩
  obtain ⟨b', rfl⟩ : ∃ y : Nat, b = y := ⟨b.toNat, by omega⟩
  obtain ⟨n', rfl⟩ : ∃ y : Nat, n = y := ⟨n.toNat, by omega⟩
  exact (purseplays_any W r' b' n' (by omega) (by omega) (by omega) h0).mono fun e W' p => ⟨p.1, p.2.below0⟩
end Go.Proofs.Ytjjdkkncdnipcaa
