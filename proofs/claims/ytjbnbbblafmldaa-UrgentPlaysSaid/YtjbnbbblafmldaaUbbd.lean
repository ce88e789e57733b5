/- UrgentPlays walked: it returns true for any acts and any job. No condition. -/
import Derived.Test.YtjbnbbblafmldaaUbbc
namespace Go.Proofs.Ytjbnbbblafmldaa
open Go.RowKit
set_option linter.unusedVariables false
set_option linter.unusedSimpArgs false
set_option maxRecDepth 20000

theorem uj_zero {w : World} {f : Nat} {args : Array Value} (h : Calls Try.prog f args w (UjPost w none)) : Calls Try.prog f args w fun e w1 => e = .returned (.tuple #[.agg #[.int .u32 0, .int .u16 0, .int .i64 0], .bool false]) ∧ Kp No w w1 :=
  h.mono fun e w1 hp => ⟨by rw [hp.1, ← zJ_val]; rfl, hp.2⟩
set_option maxHeartbeats 8000000 in
theorem urgentplays_walk {W : World} {A0 : Option Addr} {n0 c0 j : Nat} {KK : Nat → Int} {JJ : Nat → Nat} (h0 : ActsU W A0 n0 KK JJ) (hj : j < NJ) :
    Calls Try.prog 3 #[.slice A0 n0 c0, jbV j] W (TruePost W) := by
  have HA0 := hide h0
  have HJ := hide hj
  have K1 := Kp.alloc No W (.cells #[.int .u32 (jO j : Int), .int .u16 (jS j : Int), .int .i64 (jG j)] 26)
  have HB : Hid (BxR (W.alloc (.cells #[.int .u32 (jO j : Int), .int .u16 (jS j : Int), .int .i64 (jG j)] 26)) W.heap.size j) := Bx3.new W _ _ _ _
  have HK1 := hide K1
  have HTJ := hide (fun w' => jto_any w' j)
  clear h0 hj K1
  go_enter Try.func3, Try.ntmps3
  go_wp2_with fail
  refine (awake19_any _).mono ?_
  rintro e w1 ⟨rfl, k1⟩
  have HB1 := hide (HB.out.no k1)
  have HK2 := hide (HK1.out.trans' k1)
  clear k1 HB HK1
  go_wp2_with fail
  refine (unew_any _).mono ?_
  rintro e w2 ⟨g, rfl, h2, k2⟩
  obtain ⟨s, hs⟩ : ∃ s, s = W.heap.size := ⟨_, rfl⟩
  rw [← hs] at HB1 ⊢
  have HI : Hid (UpS W g s j none 0 0 [] w2) := ⟨QxS.new h2 HK2.out k2 (fun k hk => by
    rcases hk with hk | hk
    · rw [hk]; exact HB1.out.lt
    · cases hk), RdJ.nil w2, Nat.le_refl _, HB1.out.no k2⟩
  have HSS := hide hs
  clear hs h2 k2 HB1 HK2
  go_upto_block 0 with fail
  go_cut [6] (fun v wx => ∃ A n c r, v = .slice A n c ∧ UpS W g s j A n c r wx ∧ r.length ≤ 60)
  case first =>
    go_wp2_with fail
    go_loopw [6, 7] (fun v u wr => ∃ (i : Nat) (A : Option Addr) (n c : Nat) (r : List Nat), i ≤ n0 ∧ i ≤ 60 ∧ v = .slice A n c ∧ u = .int .i64 (i : Int) ∧ UpS W g s j A n c r wr ∧ r.length ≤ i) (fun _ u _ => 60 - (intOf u).toNat)
    case atStart => exact ⟨0, none, 0, 0, [], Nat.zero_le _, by omega, rfl, rfl, HI.out, Nat.le_refl _⟩
    case round =>
      clear HI
      obtain ⟨i, A, n, c, r, hi, hi6, rfl, rfl, hI, hrl⟩ := hrel
      have HI := hide hI
      have HRL := hide hrl
      clear hI hrl
      by_cases hin : i < n0
      · by_cases h60 : i < 60
        · obtain ⟨B0, o0, rfl, a0, a1, a2, a3, hxn⟩ := (HA0.out.no HI.out.q.kp).at_ i hin
          obtain ⟨K, hK⟩ : ∃ K, K = KK i := ⟨_, rfl⟩
          obtain ⟨x, hx⟩ : ∃ x, x = JJ i := ⟨_, rfl⟩
          rw [← hK] at a0
          rw [← hx] at a1 a2 a3 hxn
          have HXN := hide hxn
          have HT := hide (fun w' => jto_any w' x)
          have hz : (i : Int) < n0 := by omega
          have hgl := HI.out.bx.lt
          clear hK hx hxn
          have HS := hide (HI.out.act K x)
          have hb0 := (HS.out.cells).1
          go_upto_block 2 with fail
          clear a0 a1 a2 a3 hb0 hgl
          generalize wr.alloc (.cells #[.int .i64 K, .int .u32 (jO x : Int), .int .u16 (jS x : Int), .int .i64 (jG x)] 32) = wa at HS ⊢
          generalize wr.heap.size = b at HS ⊢
          have HNL := hide (show n = r.length from HI.out.rd.len)
          clear HI
          go_cut [6] (fun v wx => ∃ A' n' c' r', v = .slice A' n' c' ∧ UpS W g s j A' n' c' r' wx ∧ r'.length ≤ i + 1)
          case first =>
            by_cases e1 : K = 1
            · have t1 : (K == 1) = true := by simp [e1]
              clear e1
              rcases r with _ | ⟨y, t⟩
              · have HP0 := HS.out.q.run (fun F hq => upop_any hq (by simp))
                have HP : Hid (Calls Try.prog 7 #[.pointer (some ⟨g, 0, none⟩)] wa (QxPost W g (fun y => Xs s A y ∨ y = b) wa [] (.tuple #[.agg #[.int .u32 0, .int .u16 0, .int .i64 0], .bool false]))) := by
                  rw [← zJ_val]
                  exact HP0
                have hn0 : n = 0 := HNL.out
                clear HP0
                go_wp2_with fail
                refine HP.out.mono ?_
                rintro e w5 ⟨rfl, h5, k5⟩
                have HS5 := hide (HS.out.call h5 k5)
                clear h5 k5 HP HS
                go_upto_region 14 with (fail)
                have HS6 := hide (HS5.out.no (Kp.alloc No w5 (.cells #[.int .u32 0, .int .u16 0, .int .i64 0] 36)))
                have HB6 := hide (Bx3.new w5 36 (.int .u32 0) (.int .u16 0) (.int .i64 0))
                clear HS5
                generalize w5.alloc (.cells #[.int .u32 0, .int .u16 0, .int .i64 0] 36) = w6 at HS6 HB6 ⊢
                generalize w5.heap.size = s9 at HB6 ⊢
                obtain ⟨b0, b1, b2⟩ := HB6.out.cell
                subst hn0
                go_quiet (fail)
                clear b0 b1 b2
                go_wp2_with fail
                go_meet
                exact ⟨A, 0, c, [], rfl, (HS6.out.no ((Kp.refl No w6).drewN _)).done, by simp⟩
              · have HP : Hid (Calls Try.prog 7 #[.pointer (some ⟨g, 0, none⟩)] wa (QxPost W g (fun y => Xs s A y ∨ y = b) wa t (.tuple #[jbV y, .bool true]))) :=
                  HS.out.q.run (fun F hq => upop_any hq (by have := HRL.out; omega))
                have HYN : Hid (y < NJ) := HS.out.lts y (by simp)
                have hnp : 0 < n := by rw [HNL.out]; simp
                have HTL : Hid (t.length ≤ i + 1) := by have := HRL.out; simp at this; show _ ≤ _; omega
                clear HT HXN
                go_wp2_with fail
                refine HP.out.mono ?_
                rintro e w5 ⟨rfl, h5, k5⟩
                have HS5 := hide (HS.out.call h5 k5)
                clear h5 k5 HP HS
                have HT := hide (fun w' => jto_any w' y)
                go_upto_region 14 with (fail)
                have HS6 := hide (HS5.out.no (Kp.alloc No w5 (.cells #[.int .u32 (jO y : Int), .int .u16 (jS y : Int), .int .i64 (jG y)] 36)))
                have HB6 := hide (Bx3.new w5 36 (.int .u32 (jO y : Int)) (.int .u16 (jS y : Int)) (.int .i64 (jG y)))
                clear HS5
                generalize w5.alloc (.cells #[.int .u32 (jO y : Int), .int .u16 (jS y : Int), .int .i64 (jG y)] 36) = w6 at HS6 HB6 ⊢
                generalize w5.heap.size = s9 at HB6 ⊢
                obtain ⟨b0, b1, b2⟩ := HB6.out.cell
                have HCP := hide HS6.out.cap
                obtain ⟨B, off, rfl, y0, y1, y2⟩ := HS6.out.rd.at_ 0 y rfl
                rw [Nat.zero_mul, Nat.add_zero] at y0 y1 y2
                have hn1 : decide ((0 : Int) < (n : Int)) = true := decide_eq_true (by omega)
                have hn2 : decide (0 < n) = true := decide_eq_true hnp
                refine wp_region_noPanic ?_
                refine wp_region_held_drew (S := fun w' => w'.cell? ⟨s9, 0, none⟩ = some (.int .u32 (jO y : Int)) ∧ w'.cell? ⟨s9, 1, none⟩ = some (.int .u16 (jS y : Int)) ∧ w'.cell? ⟨s9, 2, none⟩ = some (.int .i64 (jG y)) ∧ w'.cell? ⟨B, off, none⟩ = some (.int .u32 (jO y : Int)) ∧ w'.cell? ⟨B, off + 1, none⟩ = some (.int .u16 (jS y : Int)) ∧ w'.cell? ⟨B, off + 2, none⟩ = some (.int .i64 (jG y))) (by kernel_rfl) (⟨b0, b1, b2, y0, y1, y2⟩) (fun hHeld => ?_)
                refine wpAnyH_take (i := 0) (v := ?vpx1) (oi := ?opx1) ?hpx1 (by kernel_rfl) (by kernel_rfl) (by kernel_rfl) (fun _ _ _ h => h) (Or.inl ⟨?wpx1, ?ypx1⟩) hHeld ?rpx1
                case hpx1 => simp only [List.getElem?_toArray, List.getElem?_cons_zero, List.getElem?_cons_succ]; rfl
                case wpx1 => rfl
                case ypx1 => intro w hSw; (try dsimp only at hSw); go_simp; (try with_reducible rfl)
                simp only [Act.put, List.setIfInBounds_toArray, List.set_cons_zero, List.set_cons_succ]
                refine wpAnyH_take (i := 1) (v := ?vpx2) (oi := ?opx2) ?hpx2 (by kernel_rfl) (by kernel_rfl) (by kernel_rfl) (fun _ _ _ h => h) (Or.inl ⟨?wpx2, ?ypx2⟩) hHeld ?rpx2
                case hpx2 => simp only [List.getElem?_toArray, List.getElem?_cons_zero, List.getElem?_cons_succ]; rfl
                case wpx2 => rfl
                case ypx2 => intro w hSw; (try dsimp only at hSw); go_simp; (try with_reducible rfl)
                simp only [Act.put, List.setIfInBounds_toArray, List.set_cons_zero, List.set_cons_succ]
                refine wpAnyH_take (i := 2) (v := ?vpx3) (oi := ?opx3) ?hpx3 (by kernel_rfl) (by kernel_rfl) (by kernel_rfl) (fun _ _ _ h => h) (Or.inl ⟨?wpx3, ?ypx3⟩) hHeld ?rpx3
                case hpx3 => simp only [List.getElem?_toArray, List.getElem?_cons_zero, List.getElem?_cons_succ]; rfl
                case wpx3 => rfl
                case ypx3 => intro w hSw; (try dsimp only at hSw); go_simp; (try with_reducible rfl)
                simp only [Act.put, List.setIfInBounds_toArray, List.set_cons_zero, List.set_cons_succ]
                refine wpAnyH_take (i := 3) (v := ?vpx4) (oi := ?opx4) ?hpx4 (by kernel_rfl) (by kernel_rfl) (by kernel_rfl) (fun _ _ _ h => h) (Or.inl ⟨?wpx4, ?ypx4⟩) hHeld ?rpx4
                case hpx4 => simp only [List.getElem?_toArray, List.getElem?_cons_zero, List.getElem?_cons_succ]; rfl
                case wpx4 => rfl
                case ypx4 => intro w hSw; (try dsimp only at hSw); go_simp; (try with_reducible rfl)
                simp only [Act.put, List.setIfInBounds_toArray, List.set_cons_zero, List.set_cons_succ]
                refine wpAnyH_take (i := 4) (v := ?vpx5) (oi := ?opx5) ?hpx5 (by kernel_rfl) (by kernel_rfl) (by kernel_rfl) (fun _ _ _ h => h) (Or.inl ⟨?wpx5, ?ypx5⟩) hHeld ?rpx5
                case hpx5 => simp only [List.getElem?_toArray, List.getElem?_cons_zero, List.getElem?_cons_succ]; rfl
                case wpx5 => rfl
                case ypx5 => intro w hSw; (try dsimp only at hSw); go_simp; (try with_reducible rfl)
                simp only [Act.put, List.setIfInBounds_toArray, List.set_cons_zero, List.set_cons_succ]
                refine wpAnyH_take (i := 5) (v := ?vpx6) (oi := ?opx6) ?hpx6 (by kernel_rfl) (by kernel_rfl) (by kernel_rfl) (fun _ _ _ h => h) (Or.inl ⟨?wpx6, ?ypx6⟩) hHeld ?rpx6
                case hpx6 => simp only [List.getElem?_toArray, List.getElem?_cons_zero, List.getElem?_cons_succ]; rfl
                case wpx6 => rfl
                case ypx6 => intro w hSw; (try dsimp only at hSw); go_simp; (try with_reducible rfl)
                simp only [Act.put, List.setIfInBounds_toArray, List.set_cons_zero, List.set_cons_succ]
                refine wpAnyH_take (i := 6) (v := ?vpx7) (oi := ?opx7) ?hpx7 (by kernel_rfl) (by kernel_rfl) (by kernel_rfl) (fun _ _ _ h => h) (Or.inl ⟨?wpx7, ?ypx7⟩) hHeld ?rpx7
                case hpx7 => simp only [List.getElem?_toArray, List.getElem?_cons_zero, List.getElem?_cons_succ]; rfl
                case wpx7 => rfl
                case ypx7 => intro w hSw; (try dsimp only at hSw); go_simp; (try with_reducible rfl)
                simp only [Act.put, List.setIfInBounds_toArray, List.set_cons_zero, List.set_cons_succ]
                refine wpAnyH_take (i := 7) (v := ?vpx8) (oi := ?opx8) ?hpx8 (by kernel_rfl) (by kernel_rfl) (by kernel_rfl) (fun _ _ _ h => h) (Or.inl ⟨?wpx8, ?ypx8⟩) hHeld ?rpx8
                case hpx8 => simp only [List.getElem?_toArray, List.getElem?_cons_zero, List.getElem?_cons_succ]; rfl
                case wpx8 => rfl
                case ypx8 => intro w hSw; (try dsimp only at hSw); go_simp; (try with_reducible rfl)
                simp only [Act.put, List.setIfInBounds_toArray, List.set_cons_zero, List.set_cons_succ]
                refine wpAnyH_take (i := 8) (v := ?vpx9) (oi := ?opx9) ?hpx9 (by kernel_rfl) (by kernel_rfl) (by kernel_rfl) (fun _ _ _ h => h) (Or.inl ⟨?wpx9, ?ypx9⟩) hHeld ?rpx9
                case hpx9 => simp only [List.getElem?_toArray, List.getElem?_cons_zero, List.getElem?_cons_succ]; rfl
                case wpx9 => rfl
                case ypx9 => intro w hSw; (try dsimp only at hSw); go_simp; (try with_reducible rfl)
                simp only [Act.put, List.setIfInBounds_toArray, List.set_cons_zero, List.set_cons_succ]
                refine wpAnyH_take (i := 9) (v := ?vpx10) (oi := ?opx10) ?hpx10 (by kernel_rfl) (by kernel_rfl) (by kernel_rfl) (fun _ _ _ h => h) (Or.inl ⟨?wpx10, ?ypx10⟩) hHeld ?rpx10
                case hpx10 => simp only [List.getElem?_toArray, List.getElem?_cons_zero, List.getElem?_cons_succ]; rfl
                case wpx10 => rfl
                case ypx10 => intro w hSw; (try dsimp only at hSw); go_simp; (try with_reducible rfl)
                simp only [Act.put, List.setIfInBounds_toArray, List.set_cons_zero, List.set_cons_succ]
                refine wpAnyH_take (i := 10) (v := ?vpx11) (oi := ?opx11) ?hpx11 (by kernel_rfl) (by kernel_rfl) (by kernel_rfl) (fun _ _ _ h => h) (Or.inl ⟨?wpx11, ?ypx11⟩) hHeld ?rpx11
                case hpx11 => simp only [List.getElem?_toArray, List.getElem?_cons_zero, List.getElem?_cons_succ]; rfl
                case wpx11 => rfl
                case ypx11 => intro w hSw; (try dsimp only at hSw); go_simp; (try with_reducible rfl)
                simp only [Act.put, List.setIfInBounds_toArray, List.set_cons_zero, List.set_cons_succ]
                refine wpAnyH_take (i := 11) (v := ?vpx12) (oi := ?opx12) ?hpx12 (by kernel_rfl) (by kernel_rfl) (by kernel_rfl) (fun _ _ _ h => h) (Or.inl ⟨?wpx12, ?ypx12⟩) hHeld ?rpx12
                case hpx12 => simp only [List.getElem?_toArray, List.getElem?_cons_zero, List.getElem?_cons_succ]; rfl
                case wpx12 => rfl
                case ypx12 => intro w hSw; (try dsimp only at hSw); go_simp; (try with_reducible rfl)
                simp only [Act.put, List.setIfInBounds_toArray, List.set_cons_zero, List.set_cons_succ]
                refine wpAnyH_ready (rs := [12]) (by kernel_rfl) (by simp) ?_
                refine AllReadyH.cons (o := ?opx13) ?hpx13 (fun K hK => ?spx13) AllReadyH.nil
                case hpx13 => simp only [List.getElem?_toArray, List.getElem?_cons_zero, List.getElem?_cons_succ]; rfl
                go_simp
                refine (HT.out _).mono ?_
                rintro e w7 ⟨rfl, k7⟩
                have s1 := ukept6 k7 hHeld
                go_wp2_with fail
                refine hK.out _ _ (s1) (fun hHeld => ?_)
                clear hK K
                try simp only [Act.put, List.setIfInBounds_toArray, List.set_cons_zero, List.set_cons_succ]
                refine wpAnyH_take (i := 13) (v := ?vpx14) (oi := ?opx14) ?hpx14 (by kernel_rfl) (by kernel_rfl) (by kernel_rfl) (fun _ _ _ h => h) (Or.inl ⟨?wpx14, ?ypx14⟩) hHeld ?rpx14
                case hpx14 => simp only [List.getElem?_toArray, List.getElem?_cons_zero, List.getElem?_cons_succ]; rfl
                case wpx14 => rfl
                case ypx14 => intro w hSw; (try dsimp only at hSw); go_simp; (try with_reducible rfl)
                simp only [Act.put, List.setIfInBounds_toArray, List.set_cons_zero, List.set_cons_succ]
                refine wpAnyH_take (i := 14) (v := ?vpx15) (oi := ?opx15) ?hpx15 (by kernel_rfl) (by kernel_rfl) (by kernel_rfl) (fun _ _ _ h => h) (Or.inl ⟨?wpx15, ?ypx15⟩) hHeld ?rpx15
                case hpx15 => simp only [List.getElem?_toArray, List.getElem?_cons_zero, List.getElem?_cons_succ]; rfl
                case wpx15 => rfl
                case ypx15 => intro w hSw; (try dsimp only at hSw); go_simp; (try with_reducible rfl)
                simp only [Act.put, List.setIfInBounds_toArray, List.set_cons_zero, List.set_cons_succ]
                refine wpAnyH_take (i := 15) (v := ?vpx16) (oi := ?opx16) ?hpx16 (by kernel_rfl) (by kernel_rfl) (by kernel_rfl) (fun _ _ _ h => h) (Or.inl ⟨?wpx16, ?ypx16⟩) hHeld ?rpx16
                case hpx16 => simp only [List.getElem?_toArray, List.getElem?_cons_zero, List.getElem?_cons_succ]; rfl
                case wpx16 => rfl
                case ypx16 => intro w hSw; (try dsimp only at hSw); go_simp; (try with_reducible rfl)
                simp only [Act.put, List.setIfInBounds_toArray, List.set_cons_zero, List.set_cons_succ]
                refine wpAnyH_take (i := 16) (v := ?vpx17) (oi := ?opx17) ?hpx17 (by kernel_rfl) (by kernel_rfl) (by kernel_rfl) (fun _ _ _ h => h) (Or.inl ⟨?wpx17, ?ypx17⟩) hHeld ?rpx17
                case hpx17 => simp only [List.getElem?_toArray, List.getElem?_cons_zero, List.getElem?_cons_succ]; rfl
                case wpx17 => rfl
                case ypx17 => intro w hSw; (try dsimp only at hSw); go_simp; (try with_reducible rfl)
                simp only [Act.put, List.setIfInBounds_toArray, List.set_cons_zero, List.set_cons_succ]
                refine wpAnyH_take (i := 17) (v := ?vpx18) (oi := ?opx18) ?hpx18 (by kernel_rfl) (by kernel_rfl) (by kernel_rfl) (fun _ _ _ h => h) (Or.inl ⟨?wpx18, ?ypx18⟩) hHeld ?rpx18
                case hpx18 => simp only [List.getElem?_toArray, List.getElem?_cons_zero, List.getElem?_cons_succ]; rfl
                case wpx18 => rfl
                case ypx18 => intro w hSw; (try dsimp only at hSw); go_simp; (try with_reducible rfl)
                simp only [Act.put, List.setIfInBounds_toArray, List.set_cons_zero, List.set_cons_succ]
                refine wpAnyH_take (i := 18) (v := ?vpx19) (oi := ?opx19) ?hpx19 (by kernel_rfl) (by kernel_rfl) (by kernel_rfl) (fun _ _ _ h => h) (Or.inl ⟨?wpx19, ?ypx19⟩) hHeld ?rpx19
                case hpx19 => simp only [List.getElem?_toArray, List.getElem?_cons_zero, List.getElem?_cons_succ]; rfl
                case wpx19 => rfl
                case ypx19 => intro w hSw; (try dsimp only at hSw); go_simp; (try with_reducible rfl)
                simp only [Act.put, List.setIfInBounds_toArray, List.set_cons_zero, List.set_cons_succ]
                refine wpAnyH_take (i := 19) (v := ?vpx20) (oi := ?opx20) ?hpx20 (by kernel_rfl) (by kernel_rfl) (by kernel_rfl) (fun _ _ _ h => h) (Or.inl ⟨?wpx20, ?ypx20⟩) hHeld ?rpx20
                case hpx20 => simp only [List.getElem?_toArray, List.getElem?_cons_zero, List.getElem?_cons_succ]; rfl
                case wpx20 => rfl
                case ypx20 => intro w hSw; (try dsimp only at hSw); go_simp; (try with_reducible rfl)
                simp only [Act.put, List.setIfInBounds_toArray, List.set_cons_zero, List.set_cons_succ]
                refine wpAnyH_take (i := 20) (v := undef) (oi := ?opx21) ?hpx21 (by kernel_rfl) (by kernel_rfl) (by kernel_rfl) (fun _ _ _ h => h) (Or.inr ⟨?wpx21, rfl⟩) hHeld ?rpx21
                case hpx21 => simp only [List.getElem?_toArray, List.getElem?_cons_zero, List.getElem?_cons_succ]; rfl
                case wpx21 => rfl
                simp only [Act.put, List.setIfInBounds_toArray, List.set_cons_zero, List.set_cons_succ]
                refine wpAnyH_take (i := 21) (v := undef) (oi := ?opx22) ?hpx22 (by kernel_rfl) (by kernel_rfl) (by kernel_rfl) (fun _ _ _ h => h) (Or.inr ⟨?wpx22, rfl⟩) hHeld ?rpx22
                case hpx22 => simp only [List.getElem?_toArray, List.getElem?_cons_zero, List.getElem?_cons_succ]; rfl
                case wpx22 => rfl
                simp only [Act.put, List.setIfInBounds_toArray, List.set_cons_zero, List.set_cons_succ]
                refine wpAnyH_take (i := 22) (v := undef) (oi := ?opx23) ?hpx23 (by kernel_rfl) (by kernel_rfl) (by kernel_rfl) (fun _ _ _ h => h) (Or.inr ⟨?wpx23, rfl⟩) hHeld ?rpx23
                case hpx23 => simp only [List.getElem?_toArray, List.getElem?_cons_zero, List.getElem?_cons_succ]; rfl
                case wpx23 => rfl
                simp only [Act.put, List.setIfInBounds_toArray, List.set_cons_zero, List.set_cons_succ]
                refine wpAnyH_take (i := 23) (v := ?vpx24) (oi := ?opx24) ?hpx24 (by kernel_rfl) (by kernel_rfl) (by kernel_rfl) (fun _ _ _ h => h) (Or.inl ⟨?wpx24, ?ypx24⟩) hHeld ?rpx24
                case hpx24 => simp only [List.getElem?_toArray, List.getElem?_cons_zero, List.getElem?_cons_succ]; rfl
                case wpx24 => rfl
                case ypx24 => intro w hSw; (try dsimp only at hSw); go_simp; (try with_reducible rfl)
                simp only [Act.put, List.setIfInBounds_toArray, List.set_cons_zero, List.set_cons_succ]
                refine wpAnyH_take (i := 24) (v := ?vpx25) (oi := ?opx25) ?hpx25 (by kernel_rfl) (by kernel_rfl) (by kernel_rfl) (fun _ _ _ h => h) (Or.inl ⟨?wpx25, ?ypx25⟩) hHeld ?rpx25
                case hpx25 => simp only [List.getElem?_toArray, List.getElem?_cons_zero, List.getElem?_cons_succ]; rfl
                case wpx25 => rfl
                case ypx25 => intro w hSw; (try dsimp only at hSw); go_simp; (try with_reducible rfl)
                simp only [Act.put, List.setIfInBounds_toArray, List.set_cons_zero, List.set_cons_succ]
                refine wpAnyH_done (by kernel_rfl) ?_ _
                refine NoPanic.normal ?_
                have HK7 := hide ((Kp.refl No w6).drew.trans' k7)
                clear b0 b1 b2 y0 y1 y2 hHeld k7 hn1 hn2
                have hsl := fun w' => rjsl_at (some ⟨B, off, none⟩) (L := n) (cl := c) (k := 1) (r := n - 1) (rc := c - 1) hnp HCP.out rfl rfl w'
                rw [show ((1 : Nat) : Int) = 1 from rfl] at hsl
                have HS7 := hide (HS6.out.no HK7.out).tail
                generalize (if c = 1 then (some ⟨B, off, none⟩ : Option Addr) else (some ⟨B, off, none⟩ : Option Addr).map (·.add (1 * 3))) = A7 at hsl HS7
                obtain ⟨m7, hm7⟩ : ∃ m7, m7 = n - 1 := ⟨_, rfl⟩
                obtain ⟨c7, hc7⟩ : ∃ c7, c7 = c - 1 := ⟨_, rfl⟩
                rw [← hm7, ← hc7] at hsl HS7
                clear hm7 hc7
                go_wp2_with fail
                go_meet
                exact ⟨A7, m7, c7, t, rfl, HS7.out.done, HTL.out⟩
            · by_cases e2 : K = 2
              · have t1 : (K == 1) = false := by simp [e1]
                have t2 : (K == 2) = true := by simp [e2]
                obtain ⟨z1, z2, z3, z4⟩ := HS.out.cells
                have HIX := hide (rindex_any (c := c) (k := ky x) HS.out.rd (by have := HRL.out; omega))
                have HIC : Hid (Calls Try.prog 9 #[.slice A n c, .int .u32 (jO x : Int), .int .u16 (jS x : Int)] wa fun e w1 => e = .returned (.int .i64 (rIxZ r (ky x))) ∧ wa = w1) := HIX.out
                have HSG := hide (rIxZ_sign r (ky x))
                clear e1 e2 HIX
                generalize rIxZ r (ky x) = z at HIC HSG
                go_wp2_with fail
                refine HIC.out.mono ?_
                rintro e w5 ⟨rfl, rfl⟩
                go_wp2_with fail
                refine (HT.out _).mono ?_
                rintro e w5 ⟨rfl, k5⟩
                have HS5 := hide (HS.out.no k5)
                have HP := hide (HS5.out.q.run (fun F hq => udrop_any hq (ky_lt x) (by have := HRL.out; omega)))
                have HPC : Hid (Calls Try.prog 10 #[.pointer (some ⟨g, 0, none⟩), .agg #[.int .u32 (jO x : Int), .int .u16 (jS x : Int)]] w5 (QxPost W g (fun y => Xs s A y ∨ y = b) w5 (rDrop r (ky x)) (.bool (rHas r (ky x))))) := HP.out
                rw [← HSG.out] at HPC
                have hfl := ufld_key (jO x) (jS x) (jG x)
                clear k5 HP HS HIC z1 z2 z3 z4
                go_wp2_with (simp only [hfl])
                refine HPC.out.mono ?_
                rintro e w6 ⟨rfl, h6, k6⟩
                have HS6 := hide (HS5.out.call h6 k6)
                have HD := hide (rdrop_any (c := c) (k := ky x) HS6.out.rd (by have := HRL.out; omega))
                have HDC : Hid (Calls Try.prog 11 #[.slice A n c, .int .u32 (jO x : Int), .int .u16 (jS x : Int)] w6 (RjPost w6 (rDrop r (ky x)))) := HD.out
                obtain ⟨z1, z2, z3, z4⟩ := HS6.out.cells
                clear h6 k6 HS5 HPC hfl HD
                go_wp2_with fail
                refine HDC.out.mono ?_
                rintro e w7 ⟨A7, n7, c7, rfl, ho, k7⟩
                have HS7 := hide (HS6.out.ref k7 ho)
                clear k7 ho HS6 HDC z1 z2 z3 z4
                go_wp2_with fail
                go_meet
                exact ⟨A7, n7, c7, rDrop r (ky x), rfl, HS7.out.done, Nat.le_trans rDrop_len_le (by have := HRL.out; omega)⟩
              · have t1 : (K == 1) = false := by simp [e1]
                have t2 : (K == 2) = false := by simp [e2]
                obtain ⟨z1, z2, z3, z4⟩ := HS.out.cells
                clear e1 e2
                go_wp2_with fail
                refine (HT.out _).mono ?_
                rintro e w5 ⟨rfl, k5⟩
                have HS5 := hide (HS.out.no k5)
                have HP := hide (HS5.out.q.run (fun F hq => uput_any hq HXN.out (by have := HRL.out; omega)))
                clear k5 HS z1 z2 z3 z4
                go_wp2_with fail
                refine HP.out.mono ?_
                rintro e w6 ⟨rfl, h6, k6⟩
                have HS6 := hide (HS5.out.call h6 k6)
                have HD := hide (rput_any (c := c) (j := x) HS6.out.rd (by have := HRL.out; omega))
                obtain ⟨z1, z2, z3, z4⟩ := HS6.out.cells
                clear h6 k6 HS5 HP
                go_wp2_with fail
                refine HD.out.mono ?_
                rintro e w7 ⟨A7, n7, c7, rfl, ho, k7⟩
                have HS7 := hide (HS6.out.ref k7 ho)
                clear k7 ho HS6 HD z1 z2 z3 z4
                go_wp2_with fail
                go_meet
                exact ⟨A7, n7, c7, rPut r x, rfl, HS7.out.done, Nat.le_trans rPut_len_le (by have := HRL.out; omega)⟩
          case rest =>
            obtain ⟨A', n', c', r', rfl, hS, hl⟩ := hcut
            have HS8 := hide hS
            have HL8 := hide hl
            have HSM := hide (hS.same (by omega))
            clear hS hl HS
            go_wp2_with fail
            refine HSM.out.mono ?_
            rintro e w8 ⟨rfl, k8⟩
            have HS9 := hide (HS8.out.no k8)
            clear k8 HS8 HSM
            go_wp2_with fail
            go_round
            case rel => exact ⟨i + 1, A', n', c', r', by omega, by omega, rfl, by go_num, HS9.out, HL8.out⟩
            case measure => simp [intOf]; omega
        · obtain rfl : i = 60 := by omega
          go_wp2_with fail
          go_meet
          exact ⟨A, n, c, r, rfl, HI.out, HRL.out⟩
      · have hz : ¬ (i : Int) < n0 := by omega
        go_wp2_with fail
        go_meet
        exact ⟨A, n, c, r, rfl, HI.out, Nat.le_trans HRL.out hi6⟩
  case rest =>
    clear HI
    obtain ⟨A, n, c, r, rfl, hS, hl⟩ := hcut
    rename World => w3
    have HS := hide hS
    have HL := hide hl
    clear hS hl
    go_upto_region 25 with (fail)
    obtain ⟨x0, x1, x2⟩ := HS.out.bx.cell
    go_wp2_with fail
    refine (HTJ.out _).mono ?_
    rintro e w4 ⟨rfl, k4⟩
    have HS4 := hide (HS.out.no k4)
    clear k4 x0 x1 x2 HS
    have hfl := ufld_key (jO j) (jS j) (jG j)
    have hG : Calls Try.prog 15 #[.pointer (some ⟨g, 0, none⟩), kyV (ky j)] w4 (UjPost w4 (rGet r (ky j))) := by
      obtain ⟨F, hq, _⟩ := HS4.out.q.ex
      exact uget_any hq (ky_lt j) (by have := HL.out; omega)
    cases hh : rHas r (ky j)
    · have HGZ : Hid (Calls Try.prog 15 #[.pointer (some ⟨g, 0, none⟩), .agg #[.int .u32 (jO j : Int), .int .u16 (jS j : Int)]] w4 fun e w1 => e = .returned (.tuple #[.agg #[.int .u32 0, .int .u16 0, .int .i64 0], .bool false]) ∧ Kp No w4 w1) := by
        have : rGet r (ky j) = none := by unfold rGet; rw [hh]; rfl
        rw [this] at hG
        exact uj_zero hG
      have hz : rIxZ r (ky j) = -1 := by unfold rIxZ; rw [hh]; rfl
      have HZ := hide hz
      clear hG hh hz
      go_wp2_with (simp only [hfl])
      refine HGZ.out.mono ?_
      rintro e w5 ⟨rfl, k5⟩
      have HS5 := hide ((HS4.out.no k5).no (Kp.alloc No w5 (.cells #[.int .u32 0, .int .u16 0, .int .i64 0] 36)))
      have HB5 := hide (Bx3.new w5 36 (.int .u32 0) (.int .u16 0) (.int .i64 0))
      clear k5 hfl HS4 HGZ
      go_upto_region 26 with (fail)
      generalize w5.alloc (.cells #[.int .u32 0, .int .u16 0, .int .i64 0] 36) = w6 at HS5 HB5 ⊢
      generalize w5.heap.size = s9 at HB5 ⊢
      have HIX := hide (rindex_any (c := c) (k := ky j) HS5.out.rd (by have := HL.out; omega))
      have HIC : Hid (Calls Try.prog 9 #[.slice A n c, .int .u32 (jO j : Int), .int .u16 (jS j : Int)] w6 fun e w1 => e = .returned (.int .i64 (rIxZ r (ky j))) ∧ w6 = w1) := HIX.out
      rw [HZ.out] at HIC
      obtain ⟨x0, x1, x2⟩ := HS5.out.bx.cell
      clear HIX
      go_wp2_with fail
      refine HIC.out.mono ?_
      rintro e w7 ⟨rfl, rfl⟩
      clear HIC x0 x1 x2
      obtain ⟨b0, b1, b2⟩ := HB5.out.cell
      go_upto_region 27 with (fail)
      go_quiet (fail)
      rename_i nq
      have HBW := hide (HS5.out.bx.no ((Kp.refl No w6).drewN nq))
      have HKW := hide (HS5.out.q.kp.drewN nq)
      clear b0 b1 b2 HS5 HB5
      generalize w6.drewN nq = w7 at HBW HKW ⊢
      go_upto_region 30 with (fail)
      obtain ⟨x0, x1, x2⟩ := HBW.out.cell
      go_wp2_with fail
      refine (HTJ.out _).mono ?_
      rintro e w8 ⟨rfl, k8⟩
      have HB8 := hide (HBW.out.no k8)
      have HK8 := hide (HKW.out.trans' k8)
      clear k8 x0 x1 x2 HBW HKW
      go_wp2_with fail
      refine (uput_nil w8 j).mono ?_
      rintro e w9 ⟨rfl, k9⟩
      have HB9 := hide (HB8.out.no k9)
      have HK9 := hide (HK8.out.trans' k9)
      clear k9 HB8 HK8
      go_upto_region 31 with (fail)
      obtain ⟨x0, x1, x2⟩ := HB9.out.cell
      have hsl := HB9.out.lt
      have hz9 := QuZ.new w9
      have hk9 := Kp.alloc No w9 (.cells #[.slice none 0 0, .map none] 50)
      have HZ9 := hide hz9
      have HBA := hide (HB9.out.no hk9)
      have HKA := hide (HK9.out.trans' hk9)
      clear hz9 hk9
      go_wp2_with fail
      refine (HTJ.out _).mono ?_
      rintro e w10 ⟨rfl, k10⟩
      have HZA := hide (HZ9.out.no k10)
      have HB10 := hide (HBA.out.no k10)
      have HK10 := hide (HKA.out.trans' k10)
      clear k10 x0 x1 x2 hsl HZ9 HBA HKA HB9 HK9
      go_wp2_with fail
      refine (uput_zero HZA.out j).mono ?_
      rintro e w11 ⟨rfl, k11⟩
      have HB11 := hide (HB10.out.no k11)
      have HK11 := hide (HK10.out.trans' k11)
      clear k11 HB10 HK10 HZA
      go_upto_region 32 with (fail)
      obtain ⟨x0, x1, x2⟩ := HB11.out.cell
      go_wp2_with fail
      refine (HTJ.out _).mono ?_
      rintro e w12 ⟨rfl, k12⟩
      have HB12 := hide (HB11.out.no k12)
      have HK12 := hide (HK11.out.trans' k12)
      clear k12 x0 x1 x2 HB11 HK11
      have hfl := ufld_key (jO j) (jS j) (jG j)
      go_wp2_with (simp only [hfl])
      refine (uj_zero (uget_nil w12 (ky j))).mono ?_
      rintro e w13 ⟨rfl, k13⟩
      have HB13 := hide (HB12.out.no k13)
      have HK13 := hide (HK12.out.trans' k13)
      clear k13 hfl HB12 HK12
      go_upto_region 33 with (fail)
      have HB14 := hide (HB13.out.no (Kp.alloc No w13 (.cells #[.int .u32 0, .int .u16 0, .int .i64 0] 36)))
      have HK14 := hide (HK13.out.al (.cells #[.int .u32 0, .int .u16 0, .int .i64 0] 36))
      generalize w13.alloc (.cells #[.int .u32 0, .int .u16 0, .int .i64 0] 36) = w14 at HB14 HK14 ⊢
      clear HB13 HK13
      go_wp2_with fail
      refine (uj_zero (ufirst_nil w14)).mono ?_
      rintro e w15 ⟨rfl, k15⟩
      have HB15 := hide ((HB14.out.no k15).no (Kp.alloc No w15 (.cells #[.int .u32 0, .int .u16 0, .int .i64 0] 36)))
      have HK15 := hide ((HK14.out.trans' k15).al (.cells #[.int .u32 0, .int .u16 0, .int .i64 0] 36))
      clear k15 HB14 HK14
      go_upto_region 34 with (fail)
      generalize w15.alloc (.cells #[.int .u32 0, .int .u16 0, .int .i64 0] 36) = w16 at HB15 HK15 ⊢
      go_wp2_with fail
      refine (uj_zero (upop_nil w16)).mono ?_
      rintro e w17 ⟨rfl, k17⟩
      have HB17 := hide ((HB15.out.no k17).no (Kp.alloc No w17 (.cells #[.int .u32 0, .int .u16 0, .int .i64 0] 36)))
      have HK17 := hide ((HK15.out.trans' k17).al (.cells #[.int .u32 0, .int .u16 0, .int .i64 0] 36))
      clear k17 HB15 HK15
      go_upto_region 35 with (fail)
      generalize w17.alloc (.cells #[.int .u32 0, .int .u16 0, .int .i64 0] 36) = w18 at HB17 HK17 ⊢
      have HZ18 := hide (QuZ.new w18)
      have HB18 := hide (HB17.out.no (Kp.alloc No w18 (.cells #[.slice none 0 0, .map none] 50)))
      have HK18 := hide (HK17.out.al (.cells #[.slice none 0 0, .map none] 50))
      clear HB17 HK17
      go_wp2_with fail
      refine (uj_zero (upop_zero HZ18.out)).mono ?_
      rintro e w19 ⟨rfl, k19⟩
      have HB19 := hide ((HB18.out.no k19).no (Kp.alloc No w19 (.cells #[.int .u32 0, .int .u16 0, .int .i64 0] 36)))
      have HK19 := hide ((HK18.out.trans' k19).al (.cells #[.int .u32 0, .int .u16 0, .int .i64 0] 36))
      clear k19 HB18 HK18 HZ18
      go_upto_region 36 with (fail)
      generalize w19.alloc (.cells #[.int .u32 0, .int .u16 0, .int .i64 0] 36) = w20 at HB19 HK19 ⊢
      obtain ⟨x0, x1, x2⟩ := HB19.out.cell
      have hfl := ufld_key (jO j) (jS j) (jG j)
      go_wp2_with fail
      refine (HTJ.out _).mono ?_
      rintro e w21 ⟨rfl, k21⟩
      have HB21 := hide (HB19.out.no k21)
      have HK21 := hide (HK19.out.trans' k21)
      clear k21 x0 x1 x2 HB19 HK19
      go_wp2_with (simp only [hfl])
      refine (udrop_nil w21 (ky j)).mono ?_
      rintro e w22 ⟨rfl, k22⟩
      have HB22 := hide (HB21.out.no k22)
      have HK22 := hide (HK21.out.trans' k22)
      clear k22 HB21 HK21
      obtain ⟨x0, x1, x2⟩ := HB22.out.cell
      have hsl := HB22.out.lt
      have HZ22 := hide (QuZ.new w22)
      have HK23 := hide (HK22.out.al (.cells #[.slice none 0 0, .map none] 50))
      go_wp2_with fail
      refine (HTJ.out _).mono ?_
      rintro e w24 ⟨rfl, k24⟩
      have HZ24 := hide (HZ22.out.no k24)
      have HK24 := hide (HK23.out.trans' k24)
      clear k24 x0 x1 x2 hsl HB22 HK22 HZ22 HK23
      go_wp2_with (simp only [hfl])
      refine (udrop_zero (k := ky j) HZ24.out (ky_lt j)).mono ?_
      rintro e w25 ⟨rfl, k25⟩
      have HK25 := hide (HK24.out.trans' k25)
      clear k25 HK24 HZ24 hfl
      go_wp2_with fail
      refine (ulen_nil w25).mono ?_
      rintro e w26 ⟨rfl, rfl⟩
      go_wp2_with fail
      refine (uall_nil w25).mono ?_
      rintro e w27 ⟨A27, n27, c27, rfl, ho27, k27⟩
      obtain rfl : n27 = 0 := OwnT.len ho27
      have HK27 := hide (HK25.out.trans' k27)
      clear k27 ho27 HK25
      go_wp2_with fail
      refine (awake19_any _).mono ?_
      rintro e w28 ⟨rfl, k28⟩
      go_wp2_with fail
      go_ret
      exact ⟨rfl, HK27.out.trans' k28⟩
    · have hg := rJob_get hh
      obtain ⟨x, hx⟩ : ∃ x, x = rJob r (ky j) := ⟨_, rfl⟩
      obtain ⟨i, hi⟩ : ∃ i, i = rIx r (ky j) := ⟨_, rfl⟩
      have hGX : Calls Try.prog 15 #[.pointer (some ⟨g, 0, none⟩), .agg #[.int .u32 (jO j : Int), .int .u16 (jS j : Int)]] w4 (UjPost w4 (some x)) := by
        have : rGet r (ky j) = some x := by unfold rGet; rw [if_pos hh, hx]
        rw [this] at hG
        exact hG
      have hz : rIxZ r (ky j) = (i : Int) := by unfold rIxZ; rw [if_pos hh, hi]
      rw [← hx, ← hi] at hg
      have HXI : Hid (r[i]? = some x) := hg.1
      have HGX := hide hGX
      have HZ := hide hz
      have HT := hide (fun w' => jto_any w' x)
      clear hG hh hz hg hx hi hGX
      go_wp2_with (simp only [hfl])
      refine HGX.out.mono ?_
      rintro e w5 ⟨rfl, k5⟩
      have HS5 := hide ((HS4.out.no k5).no (Kp.alloc No w5 (.cells #[.int .u32 (jO x : Int), .int .u16 (jS x : Int), .int .i64 (jG x)] 36)))
      have HB5 := hide (Bx3.new w5 36 (.int .u32 (jO x : Int)) (.int .u16 (jS x : Int)) (.int .i64 (jG x)))
      clear k5 hfl HS4 HGX
      go_upto_region 26 with (fail)
      generalize w5.alloc (.cells #[.int .u32 (jO x : Int), .int .u16 (jS x : Int), .int .i64 (jG x)] 36) = w6 at HS5 HB5 ⊢
      generalize w5.heap.size = s9 at HB5 ⊢
      have HIX := hide (rindex_any (c := c) (k := ky j) HS5.out.rd (by have := HL.out; omega))
      have HIC : Hid (Calls Try.prog 9 #[.slice A n c, .int .u32 (jO j : Int), .int .u16 (jS j : Int)] w6 fun e w1 => e = .returned (.int .i64 (rIxZ r (ky j))) ∧ w6 = w1) := HIX.out
      rw [HZ.out] at HIC
      obtain ⟨x0, x1, x2⟩ := HS5.out.bx.cell
      clear HIX
      go_wp2_with fail
      refine HIC.out.mono ?_
      rintro e w7 ⟨rfl, rfl⟩
      clear HIC x0 x1 x2
      obtain ⟨b0, b1, b2⟩ := HB5.out.cell
      have hin : i < n := by rw [HS5.out.rd.len]; exact (List.getElem?_eq_some_iff.1 HXI.out).1
      obtain ⟨B, off, rfl, y0, y1, y2⟩ := HS5.out.rd.at_ i x HXI.out
      have hib : i < 1000000 := by have := HL.out; have := HS5.out.rd.len; omega
      go_upto_region 27 with (fail)
      refine wp_region_noPanic ?_
      refine wp_region_held_drew (S := fun w' => w'.cell? ⟨s9, 0, none⟩ = some (.int .u32 (jO x : Int)) ∧ w'.cell? ⟨s9, 1, none⟩ = some (.int .u16 (jS x : Int)) ∧ w'.cell? ⟨s9, 2, none⟩ = some (.int .i64 (jG x)) ∧ w'.cell? ⟨B, off + i * 3, none⟩ = some (.int .u32 (jO x : Int)) ∧ w'.cell? ⟨B, off + i * 3 + 1, none⟩ = some (.int .u16 (jS x : Int)) ∧ w'.cell? ⟨B, off + i * 3 + 2, none⟩ = some (.int .i64 (jG x))) (by kernel_rfl) (⟨b0, b1, b2, y0, y1, y2⟩) (fun hHeld => ?_)
      refine wpAnyH_take (i := 0) (v := ?vqx1) (oi := ?oqx1) ?hqx1 (by kernel_rfl) (by kernel_rfl) (by kernel_rfl) (fun _ _ _ h => h) (Or.inl ⟨?wqx1, ?yqx1⟩) hHeld ?rqx1
      case hqx1 => simp only [List.getElem?_toArray, List.getElem?_cons_zero, List.getElem?_cons_succ]; rfl
      case wqx1 => rfl
      case yqx1 => intro w hSw; (try dsimp only at hSw); go_simp; (try with_reducible rfl)
      simp only [Act.put, List.setIfInBounds_toArray, List.set_cons_zero, List.set_cons_succ]
      refine wpAnyH_take (i := 1) (v := ?vqx2) (oi := ?oqx2) ?hqx2 (by kernel_rfl) (by kernel_rfl) (by kernel_rfl) (fun _ _ _ h => h) (Or.inl ⟨?wqx2, ?yqx2⟩) hHeld ?rqx2
      case hqx2 => simp only [List.getElem?_toArray, List.getElem?_cons_zero, List.getElem?_cons_succ]; rfl
      case wqx2 => rfl
      case yqx2 => intro w hSw; (try dsimp only at hSw); go_simp; (try with_reducible rfl)
      simp only [Act.put, List.setIfInBounds_toArray, List.set_cons_zero, List.set_cons_succ]
      refine wpAnyH_take (i := 2) (v := ?vqx3) (oi := ?oqx3) ?hqx3 (by kernel_rfl) (by kernel_rfl) (by kernel_rfl) (fun _ _ _ h => h) (Or.inl ⟨?wqx3, ?yqx3⟩) hHeld ?rqx3
      case hqx3 => simp only [List.getElem?_toArray, List.getElem?_cons_zero, List.getElem?_cons_succ]; rfl
      case wqx3 => rfl
      case yqx3 => intro w hSw; (try dsimp only at hSw); go_simp; (try with_reducible rfl)
      simp only [Act.put, List.setIfInBounds_toArray, List.set_cons_zero, List.set_cons_succ]
      refine wpAnyH_take (i := 3) (v := ?vqx4) (oi := ?oqx4) ?hqx4 (by kernel_rfl) (by kernel_rfl) (by kernel_rfl) (fun _ _ _ h => h) (Or.inl ⟨?wqx4, ?yqx4⟩) hHeld ?rqx4
      case hqx4 => simp only [List.getElem?_toArray, List.getElem?_cons_zero, List.getElem?_cons_succ]; rfl
      case wqx4 => rfl
      case yqx4 => intro w hSw; (try dsimp only at hSw); go_simp; (try with_reducible rfl)
      simp only [Act.put, List.setIfInBounds_toArray, List.set_cons_zero, List.set_cons_succ]
      refine wpAnyH_take (i := 4) (v := ?vqx5) (oi := ?oqx5) ?hqx5 (by kernel_rfl) (by kernel_rfl) (by kernel_rfl) (fun _ _ _ h => h) (Or.inl ⟨?wqx5, ?yqx5⟩) hHeld ?rqx5
      case hqx5 => simp only [List.getElem?_toArray, List.getElem?_cons_zero, List.getElem?_cons_succ]; rfl
      case wqx5 => rfl
      case yqx5 => intro w hSw; (try dsimp only at hSw); go_simp; (try with_reducible rfl)
      simp only [Act.put, List.setIfInBounds_toArray, List.set_cons_zero, List.set_cons_succ]
      refine wpAnyH_take (i := 5) (v := ?vqx6) (oi := ?oqx6) ?hqx6 (by kernel_rfl) (by kernel_rfl) (by kernel_rfl) (fun _ _ _ h => h) (Or.inl ⟨?wqx6, ?yqx6⟩) hHeld ?rqx6
      case hqx6 => simp only [List.getElem?_toArray, List.getElem?_cons_zero, List.getElem?_cons_succ]; rfl
      case wqx6 => rfl
      case yqx6 => intro w hSw; (try dsimp only at hSw); go_simp; (try with_reducible rfl)
      simp only [Act.put, List.setIfInBounds_toArray, List.set_cons_zero, List.set_cons_succ]
      refine wpAnyH_take (i := 6) (v := ?vqx7) (oi := ?oqx7) ?hqx7 (by kernel_rfl) (by kernel_rfl) (by kernel_rfl) (fun _ _ _ h => h) (Or.inl ⟨?wqx7, ?yqx7⟩) hHeld ?rqx7
      case hqx7 => simp only [List.getElem?_toArray, List.getElem?_cons_zero, List.getElem?_cons_succ]; rfl
      case wqx7 => rfl
      case yqx7 => intro w hSw; (try dsimp only at hSw); go_simp; (try with_reducible rfl)
      simp only [Act.put, List.setIfInBounds_toArray, List.set_cons_zero, List.set_cons_succ]
      refine wpAnyH_take (i := 7) (v := ?vqx8) (oi := ?oqx8) ?hqx8 (by kernel_rfl) (by kernel_rfl) (by kernel_rfl) (fun _ _ _ h => h) (Or.inl ⟨?wqx8, ?yqx8⟩) hHeld ?rqx8
      case hqx8 => simp only [List.getElem?_toArray, List.getElem?_cons_zero, List.getElem?_cons_succ]; rfl
      case wqx8 => rfl
      case yqx8 => intro w hSw; (try dsimp only at hSw); go_simp; (try with_reducible rfl)
      simp only [Act.put, List.setIfInBounds_toArray, List.set_cons_zero, List.set_cons_succ]
      refine wpAnyH_take (i := 8) (v := ?vqx9) (oi := ?oqx9) ?hqx9 (by kernel_rfl) (by kernel_rfl) (by kernel_rfl) (fun _ _ _ h => h) (Or.inl ⟨?wqx9, ?yqx9⟩) hHeld ?rqx9
      case hqx9 => simp only [List.getElem?_toArray, List.getElem?_cons_zero, List.getElem?_cons_succ]; rfl
      case wqx9 => rfl
      case yqx9 => intro w hSw; (try dsimp only at hSw); go_simp; (try with_reducible rfl)
      simp only [Act.put, List.setIfInBounds_toArray, List.set_cons_zero, List.set_cons_succ]
      refine wpAnyH_take (i := 9) (v := ?vqx10) (oi := ?oqx10) ?hqx10 (by kernel_rfl) (by kernel_rfl) (by kernel_rfl) (fun _ _ _ h => h) (Or.inl ⟨?wqx10, ?yqx10⟩) hHeld ?rqx10
      case hqx10 => simp only [List.getElem?_toArray, List.getElem?_cons_zero, List.getElem?_cons_succ]; rfl
      case wqx10 => rfl
      case yqx10 => intro w hSw; (try dsimp only at hSw); go_simp; (try with_reducible rfl)
      simp only [Act.put, List.setIfInBounds_toArray, List.set_cons_zero, List.set_cons_succ]
      refine wpAnyH_take (i := 10) (v := ?vqx11) (oi := ?oqx11) ?hqx11 (by kernel_rfl) (by kernel_rfl) (by kernel_rfl) (fun _ _ _ h => h) (Or.inl ⟨?wqx11, ?yqx11⟩) hHeld ?rqx11
      case hqx11 => simp only [List.getElem?_toArray, List.getElem?_cons_zero, List.getElem?_cons_succ]; rfl
      case wqx11 => rfl
      case yqx11 => intro w hSw; (try dsimp only at hSw); go_simp; (try with_reducible rfl)
      simp only [Act.put, List.setIfInBounds_toArray, List.set_cons_zero, List.set_cons_succ]
      refine wpAnyH_take (i := 11) (v := ?vqx12) (oi := ?oqx12) ?hqx12 (by kernel_rfl) (by kernel_rfl) (by kernel_rfl) (fun _ _ _ h => h) (Or.inl ⟨?wqx12, ?yqx12⟩) hHeld ?rqx12
      case hqx12 => simp only [List.getElem?_toArray, List.getElem?_cons_zero, List.getElem?_cons_succ]; rfl
      case wqx12 => rfl
      case yqx12 => intro w hSw; (try dsimp only at hSw); go_simp; (try with_reducible rfl)
      simp only [Act.put, List.setIfInBounds_toArray, List.set_cons_zero, List.set_cons_succ]
      refine wpAnyH_ready (rs := [12]) (by kernel_rfl) (by simp) ?_
      refine AllReadyH.cons (o := ?oqx13) ?hqx13 (fun K hK => ?sqx13) AllReadyH.nil
      case hqx13 => simp only [List.getElem?_toArray, List.getElem?_cons_zero, List.getElem?_cons_succ]; rfl
      go_simp
      refine (HT.out _).mono ?_
      rintro e w7 ⟨rfl, k7⟩
      have s1 := ukept6 k7 hHeld
      go_wp2_with fail
      refine hK.out _ _ (s1) (fun hHeld => ?_)
      clear hK K
      try simp only [Act.put, List.setIfInBounds_toArray, List.set_cons_zero, List.set_cons_succ]
      refine wpAnyH_take (i := 13) (v := ?vqx14) (oi := ?oqx14) ?hqx14 (by kernel_rfl) (by kernel_rfl) (by kernel_rfl) (fun _ _ _ h => h) (Or.inl ⟨?wqx14, ?yqx14⟩) hHeld ?rqx14
      case hqx14 => simp only [List.getElem?_toArray, List.getElem?_cons_zero, List.getElem?_cons_succ]; rfl
      case wqx14 => rfl
      case yqx14 => intro w hSw; (try dsimp only at hSw); go_simp; (try with_reducible rfl)
      simp only [Act.put, List.setIfInBounds_toArray, List.set_cons_zero, List.set_cons_succ]
      refine wpAnyH_take (i := 14) (v := ?vqx15) (oi := ?oqx15) ?hqx15 (by kernel_rfl) (by kernel_rfl) (by kernel_rfl) (fun _ _ _ h => h) (Or.inl ⟨?wqx15, ?yqx15⟩) hHeld ?rqx15
      case hqx15 => simp only [List.getElem?_toArray, List.getElem?_cons_zero, List.getElem?_cons_succ]; rfl
      case wqx15 => rfl
      case yqx15 => intro w hSw; (try dsimp only at hSw); go_simp; (try with_reducible rfl)
      simp only [Act.put, List.setIfInBounds_toArray, List.set_cons_zero, List.set_cons_succ]
      refine wpAnyH_take (i := 15) (v := ?vqx16) (oi := ?oqx16) ?hqx16 (by kernel_rfl) (by kernel_rfl) (by kernel_rfl) (fun _ _ _ h => h) (Or.inl ⟨?wqx16, ?yqx16⟩) hHeld ?rqx16
      case hqx16 => simp only [List.getElem?_toArray, List.getElem?_cons_zero, List.getElem?_cons_succ]; rfl
      case wqx16 => rfl
      case yqx16 => intro w hSw; (try dsimp only at hSw); go_simp; (try with_reducible rfl)
      simp only [Act.put, List.setIfInBounds_toArray, List.set_cons_zero, List.set_cons_succ]
      refine wpAnyH_take (i := 16) (v := ?vqx17) (oi := ?oqx17) ?hqx17 (by kernel_rfl) (by kernel_rfl) (by kernel_rfl) (fun _ _ _ h => h) (Or.inl ⟨?wqx17, ?yqx17⟩) hHeld ?rqx17
      case hqx17 => simp only [List.getElem?_toArray, List.getElem?_cons_zero, List.getElem?_cons_succ]; rfl
      case wqx17 => rfl
      case yqx17 => intro w hSw; (try dsimp only at hSw); go_simp; (try with_reducible rfl)
      simp only [Act.put, List.setIfInBounds_toArray, List.set_cons_zero, List.set_cons_succ]
      refine wpAnyH_take (i := 17) (v := ?vqx18) (oi := ?oqx18) ?hqx18 (by kernel_rfl) (by kernel_rfl) (by kernel_rfl) (fun _ _ _ h => h) (Or.inl ⟨?wqx18, ?yqx18⟩) hHeld ?rqx18
      case hqx18 => simp only [List.getElem?_toArray, List.getElem?_cons_zero, List.getElem?_cons_succ]; rfl
      case wqx18 => rfl
      case yqx18 => intro w hSw; (try dsimp only at hSw); go_simp; (try with_reducible rfl)
      simp only [Act.put, List.setIfInBounds_toArray, List.set_cons_zero, List.set_cons_succ]
      refine wpAnyH_take (i := 18) (v := ?vqx19) (oi := ?oqx19) ?hqx19 (by kernel_rfl) (by kernel_rfl) (by kernel_rfl) (fun _ _ _ h => h) (Or.inl ⟨?wqx19, ?yqx19⟩) hHeld ?rqx19
      case hqx19 => simp only [List.getElem?_toArray, List.getElem?_cons_zero, List.getElem?_cons_succ]; rfl
      case wqx19 => rfl
      case yqx19 => intro w hSw; (try dsimp only at hSw); go_simp; (try with_reducible rfl)
      simp only [Act.put, List.setIfInBounds_toArray, List.set_cons_zero, List.set_cons_succ]
      refine wpAnyH_take (i := 19) (v := ?vqx20) (oi := ?oqx20) ?hqx20 (by kernel_rfl) (by kernel_rfl) (by kernel_rfl) (fun _ _ _ h => h) (Or.inl ⟨?wqx20, ?yqx20⟩) hHeld ?rqx20
      case hqx20 => simp only [List.getElem?_toArray, List.getElem?_cons_zero, List.getElem?_cons_succ]; rfl
      case wqx20 => rfl
      case yqx20 => intro w hSw; (try dsimp only at hSw); go_simp; (try with_reducible rfl)
      simp only [Act.put, List.setIfInBounds_toArray, List.set_cons_zero, List.set_cons_succ]
      refine wpAnyH_take (i := 20) (v := undef) (oi := ?oqx21) ?hqx21 (by kernel_rfl) (by kernel_rfl) (by kernel_rfl) (fun _ _ _ h => h) (Or.inr ⟨?wqx21, rfl⟩) hHeld ?rqx21
      case hqx21 => simp only [List.getElem?_toArray, List.getElem?_cons_zero, List.getElem?_cons_succ]; rfl
      case wqx21 => rfl
      simp only [Act.put, List.setIfInBounds_toArray, List.set_cons_zero, List.set_cons_succ]
      refine wpAnyH_take (i := 21) (v := undef) (oi := ?oqx22) ?hqx22 (by kernel_rfl) (by kernel_rfl) (by kernel_rfl) (fun _ _ _ h => h) (Or.inr ⟨?wqx22, rfl⟩) hHeld ?rqx22
      case hqx22 => simp only [List.getElem?_toArray, List.getElem?_cons_zero, List.getElem?_cons_succ]; rfl
      case wqx22 => rfl
      simp only [Act.put, List.setIfInBounds_toArray, List.set_cons_zero, List.set_cons_succ]
      refine wpAnyH_take (i := 22) (v := undef) (oi := ?oqx23) ?hqx23 (by kernel_rfl) (by kernel_rfl) (by kernel_rfl) (fun _ _ _ h => h) (Or.inr ⟨?wqx23, rfl⟩) hHeld ?rqx23
      case hqx23 => simp only [List.getElem?_toArray, List.getElem?_cons_zero, List.getElem?_cons_succ]; rfl
      case wqx23 => rfl
      simp only [Act.put, List.setIfInBounds_toArray, List.set_cons_zero, List.set_cons_succ]
      refine wpAnyH_take (i := 23) (v := ?vqx24) (oi := ?oqx24) ?hqx24 (by kernel_rfl) (by kernel_rfl) (by kernel_rfl) (fun _ _ _ h => h) (Or.inl ⟨?wqx24, ?yqx24⟩) hHeld ?rqx24
      case hqx24 => simp only [List.getElem?_toArray, List.getElem?_cons_zero, List.getElem?_cons_succ]; rfl
      case wqx24 => rfl
      case yqx24 => intro w hSw; (try dsimp only at hSw); go_simp; (try with_reducible rfl)
      simp only [Act.put, List.setIfInBounds_toArray, List.set_cons_zero, List.set_cons_succ]
      refine wpAnyH_take (i := 24) (v := ?vqx25) (oi := ?oqx25) ?hqx25 (by kernel_rfl) (by kernel_rfl) (by kernel_rfl) (fun _ _ _ h => h) (Or.inl ⟨?wqx25, ?yqx25⟩) hHeld ?rqx25
      case hqx25 => simp only [List.getElem?_toArray, List.getElem?_cons_zero, List.getElem?_cons_succ]; rfl
      case wqx25 => rfl
      case yqx25 => intro w hSw; (try dsimp only at hSw); go_simp; (try with_reducible rfl)
      simp only [Act.put, List.setIfInBounds_toArray, List.set_cons_zero, List.set_cons_succ]
      refine wpAnyH_done (by kernel_rfl) ?_ _
      refine NoPanic.normal ?_
      have HK7 := hide ((Kp.refl No w6).drew.trans' k7)
      have HBW := hide (HS5.out.bx.no HK7.out)
      have HKW := hide (HS5.out.q.kp.trans' HK7.out)
      clear b0 b1 b2 y0 y1 y2 k7 hHeld HS5 HB5 HK7 hin hib
      go_upto_region 30 with (fail)
      obtain ⟨x0, x1, x2⟩ := HBW.out.cell
      go_wp2_with fail
      refine (HTJ.out _).mono ?_
      rintro e w8 ⟨rfl, k8⟩
      have HB8 := hide (HBW.out.no k8)
      have HK8 := hide (HKW.out.trans' k8)
      clear k8 x0 x1 x2 HBW HKW
      go_wp2_with fail
      refine (uput_nil w8 j).mono ?_
      rintro e w9 ⟨rfl, k9⟩
      have HB9 := hide (HB8.out.no k9)
      have HK9 := hide (HK8.out.trans' k9)
      clear k9 HB8 HK8
      go_upto_region 31 with (fail)
      obtain ⟨x0, x1, x2⟩ := HB9.out.cell
      have hsl := HB9.out.lt
      have hz9 := QuZ.new w9
      have hk9 := Kp.alloc No w9 (.cells #[.slice none 0 0, .map none] 50)
      have HZ9 := hide hz9
      have HBA := hide (HB9.out.no hk9)
      have HKA := hide (HK9.out.trans' hk9)
      clear hz9 hk9
      go_wp2_with fail
      refine (HTJ.out _).mono ?_
      rintro e w10 ⟨rfl, k10⟩
      have HZA := hide (HZ9.out.no k10)
      have HB10 := hide (HBA.out.no k10)
      have HK10 := hide (HKA.out.trans' k10)
      clear k10 x0 x1 x2 hsl HZ9 HBA HKA HB9 HK9
      go_wp2_with fail
      refine (uput_zero HZA.out j).mono ?_
      rintro e w11 ⟨rfl, k11⟩
      have HB11 := hide (HB10.out.no k11)
      have HK11 := hide (HK10.out.trans' k11)
      clear k11 HB10 HK10 HZA
      go_upto_region 32 with (fail)
      obtain ⟨x0, x1, x2⟩ := HB11.out.cell
      go_wp2_with fail
      refine (HTJ.out _).mono ?_
      rintro e w12 ⟨rfl, k12⟩
      have HB12 := hide (HB11.out.no k12)
      have HK12 := hide (HK11.out.trans' k12)
      clear k12 x0 x1 x2 HB11 HK11
      have hfl := ufld_key (jO j) (jS j) (jG j)
      go_wp2_with (simp only [hfl])
      refine (uj_zero (uget_nil w12 (ky j))).mono ?_
      rintro e w13 ⟨rfl, k13⟩
      have HB13 := hide (HB12.out.no k13)
      have HK13 := hide (HK12.out.trans' k13)
      clear k13 hfl HB12 HK12
      go_upto_region 33 with (fail)
      have HB14 := hide (HB13.out.no (Kp.alloc No w13 (.cells #[.int .u32 0, .int .u16 0, .int .i64 0] 36)))
      have HK14 := hide (HK13.out.al (.cells #[.int .u32 0, .int .u16 0, .int .i64 0] 36))
      generalize w13.alloc (.cells #[.int .u32 0, .int .u16 0, .int .i64 0] 36) = w14 at HB14 HK14 ⊢
      clear HB13 HK13
      go_wp2_with fail
      refine (uj_zero (ufirst_nil w14)).mono ?_
      rintro e w15 ⟨rfl, k15⟩
      have HB15 := hide ((HB14.out.no k15).no (Kp.alloc No w15 (.cells #[.int .u32 0, .int .u16 0, .int .i64 0] 36)))
      have HK15 := hide ((HK14.out.trans' k15).al (.cells #[.int .u32 0, .int .u16 0, .int .i64 0] 36))
      clear k15 HB14 HK14
      go_upto_region 34 with (fail)
      generalize w15.alloc (.cells #[.int .u32 0, .int .u16 0, .int .i64 0] 36) = w16 at HB15 HK15 ⊢
      go_wp2_with fail
      refine (uj_zero (upop_nil w16)).mono ?_
      rintro e w17 ⟨rfl, k17⟩
      have HB17 := hide ((HB15.out.no k17).no (Kp.alloc No w17 (.cells #[.int .u32 0, .int .u16 0, .int .i64 0] 36)))
      have HK17 := hide ((HK15.out.trans' k17).al (.cells #[.int .u32 0, .int .u16 0, .int .i64 0] 36))
      clear k17 HB15 HK15
      go_upto_region 35 with (fail)
      generalize w17.alloc (.cells #[.int .u32 0, .int .u16 0, .int .i64 0] 36) = w18 at HB17 HK17 ⊢
      have HZ18 := hide (QuZ.new w18)
      have HB18 := hide (HB17.out.no (Kp.alloc No w18 (.cells #[.slice none 0 0, .map none] 50)))
      have HK18 := hide (HK17.out.al (.cells #[.slice none 0 0, .map none] 50))
      clear HB17 HK17
      go_wp2_with fail
      refine (uj_zero (upop_zero HZ18.out)).mono ?_
      rintro e w19 ⟨rfl, k19⟩
      have HB19 := hide ((HB18.out.no k19).no (Kp.alloc No w19 (.cells #[.int .u32 0, .int .u16 0, .int .i64 0] 36)))
      have HK19 := hide ((HK18.out.trans' k19).al (.cells #[.int .u32 0, .int .u16 0, .int .i64 0] 36))
      clear k19 HB18 HK18 HZ18
      go_upto_region 36 with (fail)
      generalize w19.alloc (.cells #[.int .u32 0, .int .u16 0, .int .i64 0] 36) = w20 at HB19 HK19 ⊢
      obtain ⟨x0, x1, x2⟩ := HB19.out.cell
      have hfl := ufld_key (jO j) (jS j) (jG j)
      go_wp2_with fail
      refine (HTJ.out _).mono ?_
      rintro e w21 ⟨rfl, k21⟩
      have HB21 := hide (HB19.out.no k21)
      have HK21 := hide (HK19.out.trans' k21)
      clear k21 x0 x1 x2 HB19 HK19
      go_wp2_with (simp only [hfl])
      refine (udrop_nil w21 (ky j)).mono ?_
      rintro e w22 ⟨rfl, k22⟩
      have HB22 := hide (HB21.out.no k22)
      have HK22 := hide (HK21.out.trans' k22)
      clear k22 HB21 HK21
      obtain ⟨x0, x1, x2⟩ := HB22.out.cell
      have hsl := HB22.out.lt
      have HZ22 := hide (QuZ.new w22)
      have HK23 := hide (HK22.out.al (.cells #[.slice none 0 0, .map none] 50))
      go_wp2_with fail
      refine (HTJ.out _).mono ?_
      rintro e w24 ⟨rfl, k24⟩
      have HZ24 := hide (HZ22.out.no k24)
      have HK24 := hide (HK23.out.trans' k24)
      clear k24 x0 x1 x2 hsl HB22 HK22 HZ22 HK23
      go_wp2_with (simp only [hfl])
      refine (udrop_zero (k := ky j) HZ24.out (ky_lt j)).mono ?_
      rintro e w25 ⟨rfl, k25⟩
      have HK25 := hide (HK24.out.trans' k25)
      clear k25 HK24 HZ24 hfl
      go_wp2_with fail
      refine (ulen_nil w25).mono ?_
      rintro e w26 ⟨rfl, rfl⟩
      go_wp2_with fail
      refine (uall_nil w25).mono ?_
      rintro e w27 ⟨A27, n27, c27, rfl, ho27, k27⟩
      obtain rfl : n27 = 0 := OwnT.len ho27
      have HK27 := hide (HK25.out.trans' k27)
      clear k27 ho27 HK25
      go_wp2_with fail
      refine (awake19_any _).mono ?_
      rintro e w28 ⟨rfl, k28⟩
      go_wp2_with fail
      go_ret
      exact ⟨rfl, HK27.out.trans' k28⟩
end Go.Proofs.Ytjbnbbblafmldaa
