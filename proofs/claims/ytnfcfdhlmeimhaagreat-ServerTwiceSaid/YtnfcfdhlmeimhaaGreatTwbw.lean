/- ServerTwice walked: it returns true for any requests. No condition. -/
import Derived.Test.YtnfcfdhlmeimhaaGreatTwbr
import Derived.Test.YtnfcfdhlmeimhaaGreatTwbs
import Derived.Test.YtnfcfdhlmeimhaaGreatTwbv
namespace Go.Proofs.YtnfcfdhlmeimhaaGreat
open Go.RowKit
set_option linter.unusedVariables false
set_option linter.unusedSimpArgs false
set_option maxRecDepth 20000

/-- The first reply is remembered, and so many others behind it. -/
structure NdT (P0 : Rp) (i : Nat) (N : Nd) : Prop where
  sz : NdS 40 200 (i + 1) N
  sn : ∃ l, N.sn = P0 :: l ∧ l.length ≤ i
section
variable {P0 : Rp} {i : Nat} {N : Nd} {q : Rq} {x : Nat → UInt8} {bs : List UInt8}
theorem NdT.mono (h : NdT P0 i N) {j : Nat} (hj : i ≤ j) : NdT P0 j N := by
  obtain ⟨l, e, hl⟩ := h.sn
  exact ⟨h.sz.mono (by omega), l, e, by omega⟩
theorem NdT.handB (h : NdT P0 i N) (hi : i ≤ 29) : NdT P0 (i + 1) (N.handB 5 2 x bs) := by
  refine ⟨h.sz.handB, ?_⟩
  obtain ⟨l, e, hl⟩ := h.sn
  unfold Nd.handB
  split
  · rcases ho : N.old (rqO bs) with _ | p
    · rw [(Nd.hand_none (n := 5) (a := 2) (x := x) ho).1]
      unfold Nd.did
      dsimp only
      split
      · unfold remL
        rw [e, if_neg (by simp; omega)]
        exact ⟨l ++ [_], rfl, by simp; omega⟩
      · exact ⟨l, e, by omega⟩
    · rw [(Nd.hand_some (n := 5) (a := 2) (x := x) ho).1]
      exact ⟨l, e, by omega⟩
  · exact ⟨l, e, by omega⟩
theorem NdT.first (hf : q.Fit) (hr : q.rgt = true) (hc : chgK q.kind = true) : NdT (ndP 5 2 x (Nd.up (Dk.new 40 200)).V q) 0 ((Nd.up (Dk.new 40 200)).handB 5 2 x q.bytes) ∧ (Nd.up (Dk.new 40 200)).outB 5 2 x q.bytes = (ndP 5 2 x (Nd.up (Dk.new 40 200)).V q).bytes := by
  have h1 : rqE q.bytes = true := Rq.read hf hr
  have h2 : rqO q.bytes = q := Rq.back hf hr
  have ho : (Nd.up (Dk.new 40 200)).old q = none := by rw [Nd.old_yes hc]; rfl
  obtain ⟨e1, e2⟩ := Nd.handB_yes (n := 5) (a := 2) (x := x) (N := Nd.up (Dk.new 40 200)) h1
  have hs : NdS 40 200 (0 + 1) ((Nd.up (Dk.new 40 200)).handB 5 2 x q.bytes) := (NdS.new 40 200).handB
  obtain ⟨e3, e4⟩ := Nd.hand_none (n := 5) (a := 2) (x := x) ho
  refine ⟨⟨hs, ?_⟩, ?_⟩
  · rw [e1, h2, e3, Nd.did_yes hc]
    exact ⟨[], rfl, Nat.le_refl _⟩
  · rw [e2, h2, e4]
theorem NdT.again (h : NdT P0 i N) (hf : q.Fit) (hr : q.rgt = true) (hc : chgK q.kind = true) (hn : P0.num = q.num) : N.handB 5 2 x q.bytes = N ∧ N.outB 5 2 x q.bytes = P0.bytes := by
  obtain ⟨l, e, hl⟩ := h.sn
  have h1 : rqE q.bytes = true := Rq.read hf hr
  have h2 : rqO q.bytes = q := Rq.back hf hr
  have ho : N.old q = some P0 := by
    rw [Nd.old_yes hc, e]
    exact List.find?_cons_of_pos (by simpa using hn)
  obtain ⟨e1, e2⟩ := Nd.handB_yes (n := 5) (a := 2) (x := x) (N := N) h1
  obtain ⟨e3, e4⟩ := Nd.hand_some (n := 5) (a := 2) (x := x) ho
  rw [e1, e2, h2, e3, e4]
  exact ⟨rfl, rfl⟩
end
set_option maxHeartbeats 8000000 in
theorem servertwice_any (W : World) (q : Rq) {A : Option Addr} {m c : Nat} (hf : q.Fit) (hb : Bts W (.slice A m c) q.data) {A0 : Option Addr} {n0 c0 : Nat} {qs : List Rq} (h0 : Rqs W A0 n0 qs) :
    Calls Tryz.prog 4 #[rqV q (.slice A m c), .slice A0 n0 c0] W (TruePost W) := by
  obtain ⟨x, hP⟩ := pts_ex (n := 5) (a := 2) (by omega) (by omega) (by omega)
  have hD : Dim 5 3 2 4 6 := ⟨rfl, rfl, rfl, by omega, by omega, by omega, by omega⟩
  have HMN : Hid (∀ {w}, Calls Tryz.prog 8 #[.int .i64 ((5 : Nat) : Int), .int .i64 ((3 : Nat) : Int)] w (CodePost w 5 3 x)) := fun {w} => mnew_yes w hD hP
  have HD := hide hD
  have HF := hide hf
  have HA := hide h0
  have HB : Hid (∀ w', Kp No W w' → Bts w' (.slice A m c) q.data) := fun w' hk => hb.no hk
  have HL : Hid (q.data.length = m) := hb.len.symm
  have k0 := Kp.alloc No W (.cells #[.int .u64 (q.num : Int), .int .i64 q.kind, .int .u32 (cO q.s : Int), .int .u16 (cS q.s : Int), .int .u16 (cL q.s : Int), .int .u32 (cG q.s : Int), .int .u16 (q.lost : Int), .slice A m c] 56)
  have HQ0 := hide (Bx8.new W 56 (.int .u64 (q.num : Int)) (.int .i64 q.kind) (.int .u32 (cO q.s : Int)) (.int .u16 (cS q.s : Int)) (.int .u16 (cL q.s : Int)) (.int .u32 (cG q.s : Int)) (.int .u16 (q.lost : Int)) (.slice A m c))
  have HK0 := hide k0
  clear hD hP hf h0 hb k0
  go_enter Tryz.func4, Tryz.ntmps4
  go_upto_region 1 with (fail)
  generalize hw0 : W.alloc (.cells #[.int .u64 (q.num : Int), .int .i64 q.kind, .int .u32 (cO q.s : Int), .int .u16 (cS q.s : Int), .int .u16 (cL q.s : Int), .int .u32 (cG q.s : Int), .int .u16 (q.lost : Int), .slice A m c] 56) = w0 at HQ0 HK0 ⊢
  generalize W.heap.size = b0 at HQ0 ⊢
  clear hw0
  go_wp2_with fail
  refine (awake16_any _).mono ?_
  rintro e wa ⟨rfl, k1⟩
  have HQ := hide (HQ0.out.no k1)
  have HK1 := hide (HK0.out.trans' k1)
  have HA := hide (HA.out.no HK1.out)
  have HB : Hid (∀ w', Kp No wa w' → Bts w' (.slice A m c) q.data) := fun w' hk => HB.out w' (HK1.out.trans' hk)
  clear k1 HQ0 HK0
  obtain ⟨z0, z1, z2, z3, z4, z5, z6, z7⟩ := HQ.out.cell
  by_cases e2 : q.kind = 2
  · skip
    have HCH : Hid (chgK q.kind = true) := chgK_iff.2 (.inl e2)
    have t2 : (q.kind != 2) = false := by simp [e2]
    clear e2
    go_wp2_with fail
    refine (rright15_any q A m c).mono ?_
    rintro e w1 ⟨rfl, k1⟩
    have HQ := hide (HQ.out.no k1)
    have HK1 := hide (HK1.out.trans' k1)
    have HA := hide (HA.out.no k1)
    have HB : Hid (∀ w', Kp No w1 w' → Bts w' (.slice A m c) q.data) := fun w' hk => HB.out w' (k1.trans' hk)
    clear k1 z0 z1 z2 z3 z4 z5 z6 z7
    rcases hg : RgtB q.kind q.lost m with _ | _
    · clear hg
      go_wp2_with fail
      refine (awake16_any _).mono ?_
      rintro e w9 ⟨rfl, k9⟩
      go_wp2
      go_ret
      exact ⟨rfl, HK1.out.trans' k9⟩
    · have HR : Hid (q.rgt = true) := by show RgtB q.kind q.lost q.data.length = true; rw [HL.out]; exact hg
      clear hg
      obtain ⟨z0, z1, z2, z3, z4, z5, z6, z7⟩ := HQ.out.cell
      by_cases hm : 100 < m
      · have hmz : (100 : Int) < m := by omega
        go_wp2_with fail
        refine (awake16_any _).mono ?_
        rintro e w9 ⟨rfl, k9⟩
        go_wp2
        go_ret
        exact ⟨rfl, HK1.out.trans' k9⟩
      · have hmz : ¬ (100 : Int) < m := by omega
        have HL2 : Hid (q.data.length ≤ 100) := by show _ ≤ 100; have := HL.out; omega
        by_cases hn : 30 < n0
        · have hnz : (30 : Int) < n0 := by omega
          go_wp2_with fail
          refine (awake16_any _).mono ?_
          rintro e w9 ⟨rfl, k9⟩
          go_wp2
          go_ret
          exact ⟨rfl, HK1.out.trans' k9⟩
        · have hnz : ¬ (30 : Int) < n0 := by omega
          have hn30 : n0 ≤ 30 := by omega
          have hm100 : m ≤ 100 := by omega
          clear hn hm
          go_wp2_with fail
          clear z0 z1 z2 z3 z4 z5 z6 z7 hmz hnz
          refine HMN.out.mono ?_
          rintro e w2 ⟨gc, rfl, hC, k2⟩
          have HC := hide (CdF.of hC (by omega))
          have HK2 := hide k2
          clear hC k2
          go_wp2_with fail
          refine (pnew_yes w2 40 200 (by omega) (by omega) (by omega) (by omega)).mono ?_
          rintro e w3 ⟨gd, rfl, hgd, hD3, k3⟩
          have HC3 := hide (HC.out.no k3)
          have HD3 := hide hD3
          have HK3 := hide (HK2.out.trans' k3)
          have HZ2 : Hid (w1.heap.size ≤ w2.heap.size) := HK2.out.size
          clear hD3 k3 hgd
          go_wp2_with fail
          refine (snew_any HC3.out HD3.out (fun z f => f)).mono ?_
          rintro e w4 ⟨g, rfl, _, ⟨gv, b, rv, hs⟩, k4⟩
          have HF4 : Hid (∀ z, Up (fun k => w2.heap.size ≤ k) w3 z → w1.heap.size ≤ z) := fun z f => f.elim (fun f => Nat.le_trans HZ2.out f) fun f => Nat.le_trans HK3.out.size f
          have HS4 := hide hs
          have HK4 := hide (HK3.out.trans' k4)
          clear hs k4
          obtain ⟨z0, z1, z2, z3, z4, z5, z6, z7⟩ := (HQ.out.no HK4.out).cell
          go_wp2_with fail
          refine (rbytes15_any q HF.out HR.out (HB.out w4 HK4.out) (by omega)).mono ?_
          rintro e w5 ⟨A5, n5, c5, rfl, ho5, k5⟩
          have HO5 := hide ho5
          have HS5 := hide (HS4.out.no k5)
          have HK5 := hide (HK4.out.trans' k5)
          clear ho5 k5 z0 z1 z2 z3 z4 z5 z6 z7
          go_wp2_with fail
          refine (shandle_any HS5.out HD.out ((NdS.new 40 200).szk (by omega) (by omega) (by omega)) HO5.out.bts (by rw [Rq.bytes_len]; have := HL2.out; omega) (by show 0 + 1 < _; omega)).mono ?_
          rintro e w6 ⟨A1, n1, c1, rfl, ho6, ⟨F6, ⟨gv6, b6, rv6, hs6⟩, hF6, hn6⟩, k6⟩
          obtain ⟨P0, hP0⟩ : ∃ P0, P0 = ndP 5 2 x (Nd.up (Dk.new 40 200)).V q := ⟨_, rfl⟩
          have HNT : Hid (NdT P0 0 ((Nd.up (Dk.new 40 200)).handB 5 2 x q.bytes)) := by rw [hP0]; exact (NdT.first HF.out HR.out HCH.out).1
          have HP0 : Hid (P0.num = q.num) := by show P0.num = q.num; rw [hP0]; rfl
          have hout : (Nd.up (Dk.new 40 200)).outB 5 2 x q.bytes = P0.bytes := by rw [hP0]; exact (NdT.first HF.out HR.out HCH.out).2
          rw [hout] at ho6
          have hn1 : n1 = P0.bytes.length := ho6.bts.len
          have HN9 : Hid (9 ≤ n1) := by show 9 ≤ n1; rw [hn1, Rp.bytes_len]; omega
          have HKR6 : Hid (∃ N F gv b rv, SvR w6 F w2.heap.size 5 3 x g gc gd gv b rv N ∧ NdT P0 0 N ∧ BtF w6 F (.slice A1 n1 c1) P0.bytes ∧ (∀ z, F z → w1.heap.size ≤ z) ∧ Kp No w1 w6) :=
            ⟨_, F6, gv6, b6, rv6, hs6, HNT.out, BtF.mk_ ho6.bts (fun _ k hk => hn6 k hk) (fun A n c e => by injection e with e1 e2 e3; subst e1 e2 e3; exact Own.cap ho6), fun z f => (hF6 z f).elim (HF4.out z) fun f => Nat.le_trans HK5.out.size f, HK5.out.trans (k6.mono fun z f => .inr (HF4.out z f))⟩
          clear ho6 hs6 hF6 hn6 k6 hP0 hout hn1 HS5 HS4 HO5 HNT
          go_wp2_with fail
          go_loopw [12] (fun iv wr => ∃ i : Nat, i ≤ n0 ∧ iv = .int .i64 (i : Int) ∧ Hid (∃ N F gv b rv, SvR wr F w2.heap.size 5 3 x g gc gd gv b rv N ∧ NdT P0 i N ∧ BtF wr F (.slice A1 n1 c1) P0.bytes ∧ (∀ z, F z → w1.heap.size ≤ z) ∧ Kp No w1 wr)) (fun iv _ => n0 - (intOf iv).toNat)
          case atStart => exact ⟨0, Nat.zero_le _, rfl, HKR6⟩
          case round =>
            obtain ⟨i, hi, rfl, HW⟩ := hrel
            clear HKR6
            rename World => wr
            obtain ⟨N, F, gv7, b7, rv7, hs7, hT7, hB7, hF7, hk7⟩ := HW.out
            have HS7 := hide hs7
            have HT7 := hide hT7
            have HB7 := hide hB7
            have HF7 := hide hF7
            have HK7 := hide hk7
            clear hs7 hT7 hB7 hF7 hk7 HW
            by_cases hlt : i < n0
            · have hiz : (i : Int) < n0 := by omega
              obtain ⟨r, hr⟩ : ∃ r, qs[i]? = some r := ⟨_, List.getElem?_eq_getElem (by have := HA.out.len; omega)⟩
              obtain ⟨BB, off, A', m', c', hA0, hrq⟩ := HA.out.at_ i r hr
              subst hA0
              have HRQ := hide hrq
              have HRX : Hid (∀ w', Kp No w1 w' → RqAt w' BB (off + i * 8) r A' m' c') := fun w' hk => hrq.no hk
              clear hrq hr
              have x7 := (HRX.out _ HK7.out).c7
              by_cases hm : 100 < m'
              · have hmz : (100 : Int) < m' := by omega
                go_wp2_with fail
                refine (awake16_any _).mono ?_
                rintro e w9 ⟨rfl, k9⟩
                go_wp2
                go_ret
                exact ⟨rfl, (HK1.out.trans' HK7.out).trans' k9⟩
              · have hmz : ¬ (100 : Int) < m' := by omega
                have hX := HRX.out _ HK7.out
                obtain ⟨y0, y1, y2, y3, y4, y5, y6, y7, _, _⟩ := hX
                clear x7
                have HMM : Hid (m' ≤ 100) := by show m' ≤ 100; omega
                clear hm
                go_wp2_with fail
                refine (rright15_any r A' m' c').mono ?_
                rintro e w8 ⟨rfl, k8⟩
                have HS8 := hide (HS7.out.no k8)
                have HB8 := hide (HB7.out.no k8)
                have HK8 := hide (HK7.out.trans' k8)
                clear k8 y0 y1 y2 y3 y4 y5 y6 y7
                rcases hg : RgtB r.kind r.lost m' with _ | _
                · clear hg
                  go_wp2_with fail
                  go_round
                  case rel => exact ⟨i + 1, by omega, by go_num, N, F, gv7, b7, rv7, HS8.out, HT7.out.mono (Nat.le_succ _), HB8.out, HF7.out, HK8.out⟩
                  case measure => simp [intOf]; omega
                · have HRG : Hid (r.rgt = true) := by show RgtB r.kind r.lost r.data.length = true; rw [← HRQ.out.bts.len]; exact hg
                  clear hg
                  obtain ⟨y0, y1, y2, y3, y4, y5, y6, y7, _, _⟩ := HRX.out _ HK8.out
                  go_wp2_with fail
                  refine (rbytes15_any r HRQ.out.fit HRG.out (HRX.out _ HK8.out).bts (by have := HMM.out; omega)).mono ?_
                  rintro e wA ⟨AA, nA, cA, rfl, hoA, kA⟩
                  have HOA := hide hoA
                  have HSA := hide (HS8.out.no kA)
                  have HBA := hide (HB8.out.no kA)
                  have HKA := hide (HK8.out.trans' kA)
                  clear hoA kA y0 y1 y2 y3 y4 y5 y6 y7
                  go_wp2_with fail
                  refine (shandle_any HSA.out HD.out (HT7.out.sz.szk (by omega) (by omega) (by omega)) HOA.out.bts (by rw [Rq.bytes_len]; have h1 := HRQ.out.bts.len; have h2 := HMM.out; omega) (by have := HT7.out.sz.d; omega)).mono ?_
                  rintro e wB ⟨AB, nB, cB, rfl, _, ⟨FB, ⟨gvB, bB, rvB, hsB⟩, hFB, _⟩, kB⟩
                  have HSB := hide hsB
                  have HBB := hide (HBA.out.step kB hFB)
                  have HFB : Hid (∀ z, FB z → w1.heap.size ≤ z) := fun z f => (hFB z f).elim (HF7.out z) fun f => Nat.le_trans HKA.out.size f
                  have HKB := hide (HKA.out.trans (kB.mono fun z f => .inr (HF7.out z f)))
                  clear hsB hFB kB
                  go_wp2_with fail
                  go_round
                  case rel => exact ⟨i + 1, by omega, by go_num, _, FB, gvB, bB, rvB, HSB.out, HT7.out.handB (by omega), HBB.out, HFB.out, HKB.out⟩
                  case measure => simp [intOf]; omega
            · obtain rfl : i = n0 := by omega
              have hiz : ¬ (i : Int) < i := by omega
              have HSL := hide HS7.out.lt
              clear hlt
              go_wp2_with fail
              refine (svault_any HSL.out.blk).mono ?_
              rintro e w' ⟨rfl, rfl⟩
              go_wp2_with fail
              refine (vlistn_any HSL.out.vt (by rw [HT7.out.sz.n]; omega)).mono ?_
              rintro e w8 ⟨Aw, nw, cw, rfl, how, hnw, k8⟩
              have HS8 := hide (HSL.out.no k8)
              have HB8 := hide (HB7.out.no k8)
              have HK8 := hide (HK7.out.trans' k8)
              have HOW := hide how
              have HGE : Hid (∀ z, (Value.slice Aw nw cw).ownBlock = some z → ¬ (F z ∧ z < wr.heap.size)) := fun z e f => by have := how.ge z e; omega
              have HNW := hide hnw
              clear k8 how hnw
              go_wp2_with fail
              refine (sdone_any HS8.out.blk).mono ?_
              rintro e w' ⟨rfl, rfl⟩
              obtain ⟨z0, z1, z2, z3, z4, z5, z6, z7⟩ := (HQ.out.no HK8.out).cell
              go_wp2_with fail
              refine (rbytes15_any q HF.out HR.out (HB.out _ HK8.out) (by omega)).mono ?_
              rintro e wA ⟨AA, nA, cA, rfl, hoA, kA⟩
              have HOA := hide hoA
              have HSA := hide (HS8.out.no kA)
              have HBA := hide (HB8.out.no kA)
              have HKA := hide (HK8.out.trans' kA)
              have HOWA := hide (HOW.out.no kA)
              clear hoA kA z0 z1 z2 z3 z4 z5 z6 z7
              go_wp2_with fail
              refine (shandle_any HSA.out HD.out (HT7.out.sz.szk (by omega) (by omega) (by omega)) HOA.out.bts (by rw [Rq.bytes_len]; have := HL2.out; omega) (by have := HT7.out.sz.d; omega)).mono ?_
              rintro e wB ⟨AB, nB, cB, rfl, hoB, ⟨FB, ⟨gvB, bB, rvB, hsB⟩, hFB, _⟩, kB⟩
              rw [(HT7.out.again HF.out HR.out HCH.out HP0.out).1] at hsB
              rw [(HT7.out.again HF.out HR.out HCH.out HP0.out).2] at hoB
              have HSB := hide hsB
              have HOB := hide hoB
              have HBB := hide (HBA.out.keep kB fun z _ hn f => hn f.1)
              have HOWB := hide (HOWA.out.keep kB HGE.out)
              have HKB := hide (HKA.out.trans (kB.mono fun z f => .inr (HF7.out z f.1)))
              clear hsB hoB hFB kB
              go_wp2_with fail
              refine (svault_any HSB.out.blk).mono ?_
              rintro e w' ⟨rfl, rfl⟩
              go_wp2_with fail
              refine (vlistn_any HSB.out.vt (by rw [HT7.out.sz.n]; omega)).mono ?_
              rintro e wC ⟨Al, nl, cl, rfl, hol, hnl, kC⟩
              obtain rfl : nl = nw := by rw [hnl]; exact HNW.out.symm
              have HSC := hide (HSB.out.no kC)
              have HOL := hide hol
              have HOWC := hide (HOWB.out.no kC)
              have HKC := hide (HKB.out.trans' kC)
              have hcf := conv_bts (HBB.out.bts.no kC)
              have hca := conv_bts (HOB.out.bts.no kC)
              generalize strOf P0.bytes = ts at hcf hca
              have hn40 : nl ≤ 40 := by
                have h1 := HNW.out
                have h2 : N.V.lst.length = N.V.L.length := lst_len _ _
                have h3 : N.V.L.length ≤ N.V.D.cells.length := HSC.out.vt.ok.kn.len
                have h4 := HT7.out.sz.n
                omega
              have hn9 : ¬ (n1 : Int) < 9 := by have := HN9.out; omega
              clear hol hnl kC
              go_wp2_with fail
              refine (sdone_any HSC.out.blk).mono ?_
              rintro e w' ⟨rfl, rfl⟩
              go_wp2_with fail
              clear hcf hca
              go_loopw [17] (fun iv wr => ∃ i : Nat, i ≤ nl ∧ iv = .int .i64 (i : Int) ∧ Kp No wC wr) (fun iv _ => nl - (intOf iv).toNat)
              case atStart => exact ⟨0, Nat.zero_le _, rfl, Kp.refl _ _⟩
              case round =>
                obtain ⟨i, hi, rfl, hkr⟩ := hrel
                have HKR := hide hkr
                clear hkr
                rename World => wr
                by_cases hlt : i < nl
                · have hiz : (i : Int) < nl := by omega
                  obtain ⟨t, ht⟩ : ∃ t, N.V.lst[i]? = some t := ⟨_, List.getElem?_eq_getElem (by have := HNW.out; omega)⟩
                  have hol := HOL.out.no HKR.out
                  have how := HOWC.out.no HKR.out
                  have hlN : N.V.lst.length = nl := HNW.out.symm
                  rw [← hlN] at hol how
                  obtain ⟨gl, rfl, _, l0, l1, l2, l3⟩ := nm_cell hol ht
                  obtain ⟨gw, rfl, _, m0, m1, m2, m3⟩ := nm_cell how ht
                  clear ht hol how hlN
                  go_wp2_with fail
                  refine wp_region_noPanic ?_
                  refine wp_region_held_drew (S := fun w' => w'.cell? ⟨gw, i * 4, none⟩ = some (.int .u32 (cO t : Int)) ∧ w'.cell? ⟨gw, i * 4 + 1, none⟩ = some (.int .u16 (cS t : Int)) ∧ w'.cell? ⟨gw, i * 4 + 2, none⟩ = some (.int .u16 (cL t : Int)) ∧ w'.cell? ⟨gw, i * 4 + 3, none⟩ = some (.int .u32 (cG t : Int)) ∧ w'.cell? ⟨gl, i * 4, none⟩ = some (.int .u32 (cO t : Int)) ∧ w'.cell? ⟨gl, i * 4 + 1, none⟩ = some (.int .u16 (cS t : Int)) ∧ w'.cell? ⟨gl, i * 4 + 2, none⟩ = some (.int .u16 (cL t : Int)) ∧ w'.cell? ⟨gl, i * 4 + 3, none⟩ = some (.int .u32 (cG t : Int))) (by kernel_rfl) (⟨m0, m1, m2, m3, l0, l1, l2, l3⟩) (fun hHeld => ?_)
                  refine wpAnyH_take (i := 0) (v := ?vzx1) (oi := ?ozx1) ?hzx1 (by kernel_rfl) (by kernel_rfl) (by kernel_rfl) (fun _ _ _ h => h) (Or.inl ⟨?wzx1, ?yzx1⟩) hHeld ?rzx1
                  case hzx1 => simp only [List.getElem?_toArray, List.getElem?_cons_zero, List.getElem?_cons_succ]; rfl
                  case wzx1 => rfl
                  case yzx1 => intro w hSw; (try dsimp only at hSw); go_simp; (try with_reducible rfl)
                  simp only [Act.put, List.setIfInBounds_toArray, List.set_cons_zero, List.set_cons_succ]
                  refine wpAnyH_take (i := 1) (v := ?vzx2) (oi := ?ozx2) ?hzx2 (by kernel_rfl) (by kernel_rfl) (by kernel_rfl) (fun _ _ _ h => h) (Or.inl ⟨?wzx2, ?yzx2⟩) hHeld ?rzx2
                  case hzx2 => simp only [List.getElem?_toArray, List.getElem?_cons_zero, List.getElem?_cons_succ]; rfl
                  case wzx2 => rfl
                  case yzx2 => intro w hSw; (try dsimp only at hSw); go_simp; (try with_reducible rfl)
                  simp only [Act.put, List.setIfInBounds_toArray, List.set_cons_zero, List.set_cons_succ]
                  refine wpAnyH_take (i := 2) (v := ?vzx3) (oi := ?ozx3) ?hzx3 (by kernel_rfl) (by kernel_rfl) (by kernel_rfl) (fun _ _ _ h => h) (Or.inl ⟨?wzx3, ?yzx3⟩) hHeld ?rzx3
                  case hzx3 => simp only [List.getElem?_toArray, List.getElem?_cons_zero, List.getElem?_cons_succ]; rfl
                  case wzx3 => rfl
                  case yzx3 => intro w hSw; (try dsimp only at hSw); go_simp; (try with_reducible rfl)
                  simp only [Act.put, List.setIfInBounds_toArray, List.set_cons_zero, List.set_cons_succ]
                  refine wpAnyH_take (i := 3) (v := ?vzx4) (oi := ?ozx4) ?hzx4 (by kernel_rfl) (by kernel_rfl) (by kernel_rfl) (fun _ _ _ h => h) (Or.inl ⟨?wzx4, ?yzx4⟩) hHeld ?rzx4
                  case hzx4 => simp only [List.getElem?_toArray, List.getElem?_cons_zero, List.getElem?_cons_succ]; rfl
                  case wzx4 => rfl
                  case yzx4 => intro w hSw; (try dsimp only at hSw); go_simp; (try with_reducible rfl)
                  simp only [Act.put, List.setIfInBounds_toArray, List.set_cons_zero, List.set_cons_succ]
                  refine wpAnyH_take (i := 4) (v := ?vzx5) (oi := ?ozx5) ?hzx5 (by kernel_rfl) (by kernel_rfl) (by kernel_rfl) (fun _ _ _ h => h) (Or.inl ⟨?wzx5, ?yzx5⟩) hHeld ?rzx5
                  case hzx5 => simp only [List.getElem?_toArray, List.getElem?_cons_zero, List.getElem?_cons_succ]; rfl
                  case wzx5 => rfl
                  case yzx5 => intro w hSw; (try dsimp only at hSw); go_simp; (try with_reducible rfl)
                  simp only [Act.put, List.setIfInBounds_toArray, List.set_cons_zero, List.set_cons_succ]
                  refine wpAnyH_take (i := 5) (v := ?vzx6) (oi := ?ozx6) ?hzx6 (by kernel_rfl) (by kernel_rfl) (by kernel_rfl) (fun _ _ _ h => h) (Or.inl ⟨?wzx6, ?yzx6⟩) hHeld ?rzx6
                  case hzx6 => simp only [List.getElem?_toArray, List.getElem?_cons_zero, List.getElem?_cons_succ]; rfl
                  case wzx6 => rfl
                  case yzx6 => intro w hSw; (try dsimp only at hSw); go_simp; (try with_reducible rfl)
                  simp only [Act.put, List.setIfInBounds_toArray, List.set_cons_zero, List.set_cons_succ]
                  refine wpAnyH_take (i := 6) (v := ?vzx7) (oi := ?ozx7) ?hzx7 (by kernel_rfl) (by kernel_rfl) (by kernel_rfl) (fun _ _ _ h => h) (Or.inl ⟨?wzx7, ?yzx7⟩) hHeld ?rzx7
                  case hzx7 => simp only [List.getElem?_toArray, List.getElem?_cons_zero, List.getElem?_cons_succ]; rfl
                  case wzx7 => rfl
                  case yzx7 => intro w hSw; (try dsimp only at hSw); go_simp; (try with_reducible rfl)
                  simp only [Act.put, List.setIfInBounds_toArray, List.set_cons_zero, List.set_cons_succ]
                  refine wpAnyH_take (i := 7) (v := ?vzx8) (oi := ?ozx8) ?hzx8 (by kernel_rfl) (by kernel_rfl) (by kernel_rfl) (fun _ _ _ h => h) (Or.inl ⟨?wzx8, ?yzx8⟩) hHeld ?rzx8
                  case hzx8 => simp only [List.getElem?_toArray, List.getElem?_cons_zero, List.getElem?_cons_succ]; rfl
                  case wzx8 => rfl
                  case yzx8 => intro w hSw; (try dsimp only at hSw); go_simp; (try with_reducible rfl)
                  simp only [Act.put, List.setIfInBounds_toArray, List.set_cons_zero, List.set_cons_succ]
                  refine wpAnyH_take (i := 8) (v := ?vzx9) (oi := ?ozx9) ?hzx9 (by kernel_rfl) (by kernel_rfl) (by kernel_rfl) (fun _ _ _ h => h) (Or.inl ⟨?wzx9, ?yzx9⟩) hHeld ?rzx9
                  case hzx9 => simp only [List.getElem?_toArray, List.getElem?_cons_zero, List.getElem?_cons_succ]; rfl
                  case wzx9 => rfl
                  case yzx9 => intro w hSw; (try dsimp only at hSw); go_simp; (try with_reducible rfl)
                  simp only [Act.put, List.setIfInBounds_toArray, List.set_cons_zero, List.set_cons_succ]
                  refine wpAnyH_done (by kernel_rfl) ?_ _
                  refine NoPanic.normal ?_
                  clear hHeld
                  go_wp2_with fail
                  go_round
                  case rel => exact ⟨i + 1, by omega, by go_num, HKR.out.drew⟩
                  case measure => simp [intOf]; omega
                · obtain rfl : i = nl := by omega
                  have hiz : ¬ (i : Int) < i := by omega
                  go_wp2_with fail
                  refine (awake16_any _).mono ?_
                  rintro e w9 ⟨rfl, k9⟩
                  go_wp2
                  go_ret
                  exact ⟨rfl, (HK1.out.trans' (HKC.out.trans' HKR.out)).trans' k9⟩
  by_cases e5 : q.kind = 5
  · clear e2
    have HCH : Hid (chgK q.kind = true) := chgK_iff.2 (.inr e5)
    have t2 : (q.kind != 2) = true := by simp [e5]
    have t5 : (q.kind != 5) = false := by simp [e5]
    clear e5
    go_wp2_with fail
    refine (rright15_any q A m c).mono ?_
    rintro e w1 ⟨rfl, k1⟩
    have HQ := hide (HQ.out.no k1)
    have HK1 := hide (HK1.out.trans' k1)
    have HA := hide (HA.out.no k1)
    have HB : Hid (∀ w', Kp No w1 w' → Bts w' (.slice A m c) q.data) := fun w' hk => HB.out w' (k1.trans' hk)
    clear k1 z0 z1 z2 z3 z4 z5 z6 z7
    rcases hg : RgtB q.kind q.lost m with _ | _
    · clear hg
      go_wp2_with fail
      refine (awake16_any _).mono ?_
      rintro e w9 ⟨rfl, k9⟩
      go_wp2
      go_ret
      exact ⟨rfl, HK1.out.trans' k9⟩
    · have HR : Hid (q.rgt = true) := by show RgtB q.kind q.lost q.data.length = true; rw [HL.out]; exact hg
      clear hg
      obtain ⟨z0, z1, z2, z3, z4, z5, z6, z7⟩ := HQ.out.cell
      by_cases hm : 100 < m
      · have hmz : (100 : Int) < m := by omega
        go_wp2_with fail
        refine (awake16_any _).mono ?_
        rintro e w9 ⟨rfl, k9⟩
        go_wp2
        go_ret
        exact ⟨rfl, HK1.out.trans' k9⟩
      · have hmz : ¬ (100 : Int) < m := by omega
        have HL2 : Hid (q.data.length ≤ 100) := by show _ ≤ 100; have := HL.out; omega
        by_cases hn : 30 < n0
        · have hnz : (30 : Int) < n0 := by omega
          go_wp2_with fail
          refine (awake16_any _).mono ?_
          rintro e w9 ⟨rfl, k9⟩
          go_wp2
          go_ret
          exact ⟨rfl, HK1.out.trans' k9⟩
        · have hnz : ¬ (30 : Int) < n0 := by omega
          have hn30 : n0 ≤ 30 := by omega
          have hm100 : m ≤ 100 := by omega
          clear hn hm
          go_wp2_with fail
          clear z0 z1 z2 z3 z4 z5 z6 z7 hmz hnz
          refine HMN.out.mono ?_
          rintro e w2 ⟨gc, rfl, hC, k2⟩
          have HC := hide (CdF.of hC (by omega))
          have HK2 := hide k2
          clear hC k2
          go_wp2_with fail
          refine (pnew_yes w2 40 200 (by omega) (by omega) (by omega) (by omega)).mono ?_
          rintro e w3 ⟨gd, rfl, hgd, hD3, k3⟩
          have HC3 := hide (HC.out.no k3)
          have HD3 := hide hD3
          have HK3 := hide (HK2.out.trans' k3)
          have HZ2 : Hid (w1.heap.size ≤ w2.heap.size) := HK2.out.size
          clear hD3 k3 hgd
          go_wp2_with fail
          refine (snew_any HC3.out HD3.out (fun z f => f)).mono ?_
          rintro e w4 ⟨g, rfl, _, ⟨gv, b, rv, hs⟩, k4⟩
          have HF4 : Hid (∀ z, Up (fun k => w2.heap.size ≤ k) w3 z → w1.heap.size ≤ z) := fun z f => f.elim (fun f => Nat.le_trans HZ2.out f) fun f => Nat.le_trans HK3.out.size f
          have HS4 := hide hs
          have HK4 := hide (HK3.out.trans' k4)
          clear hs k4
          obtain ⟨z0, z1, z2, z3, z4, z5, z6, z7⟩ := (HQ.out.no HK4.out).cell
          go_wp2_with fail
          refine (rbytes15_any q HF.out HR.out (HB.out w4 HK4.out) (by omega)).mono ?_
          rintro e w5 ⟨A5, n5, c5, rfl, ho5, k5⟩
          have HO5 := hide ho5
          have HS5 := hide (HS4.out.no k5)
          have HK5 := hide (HK4.out.trans' k5)
          clear ho5 k5 z0 z1 z2 z3 z4 z5 z6 z7
          go_wp2_with fail
          refine (shandle_any HS5.out HD.out ((NdS.new 40 200).szk (by omega) (by omega) (by omega)) HO5.out.bts (by rw [Rq.bytes_len]; have := HL2.out; omega) (by show 0 + 1 < _; omega)).mono ?_
          rintro e w6 ⟨A1, n1, c1, rfl, ho6, ⟨F6, ⟨gv6, b6, rv6, hs6⟩, hF6, hn6⟩, k6⟩
          obtain ⟨P0, hP0⟩ : ∃ P0, P0 = ndP 5 2 x (Nd.up (Dk.new 40 200)).V q := ⟨_, rfl⟩
          have HNT : Hid (NdT P0 0 ((Nd.up (Dk.new 40 200)).handB 5 2 x q.bytes)) := by rw [hP0]; exact (NdT.first HF.out HR.out HCH.out).1
          have HP0 : Hid (P0.num = q.num) := by show P0.num = q.num; rw [hP0]; rfl
          have hout : (Nd.up (Dk.new 40 200)).outB 5 2 x q.bytes = P0.bytes := by rw [hP0]; exact (NdT.first HF.out HR.out HCH.out).2
          rw [hout] at ho6
          have hn1 : n1 = P0.bytes.length := ho6.bts.len
          have HN9 : Hid (9 ≤ n1) := by show 9 ≤ n1; rw [hn1, Rp.bytes_len]; omega
          have HKR6 : Hid (∃ N F gv b rv, SvR w6 F w2.heap.size 5 3 x g gc gd gv b rv N ∧ NdT P0 0 N ∧ BtF w6 F (.slice A1 n1 c1) P0.bytes ∧ (∀ z, F z → w1.heap.size ≤ z) ∧ Kp No w1 w6) :=
            ⟨_, F6, gv6, b6, rv6, hs6, HNT.out, BtF.mk_ ho6.bts (fun _ k hk => hn6 k hk) (fun A n c e => by injection e with e1 e2 e3; subst e1 e2 e3; exact Own.cap ho6), fun z f => (hF6 z f).elim (HF4.out z) fun f => Nat.le_trans HK5.out.size f, HK5.out.trans (k6.mono fun z f => .inr (HF4.out z f))⟩
          clear ho6 hs6 hF6 hn6 k6 hP0 hout hn1 HS5 HS4 HO5 HNT
          go_wp2_with fail
          go_loopw [12] (fun iv wr => ∃ i : Nat, i ≤ n0 ∧ iv = .int .i64 (i : Int) ∧ Hid (∃ N F gv b rv, SvR wr F w2.heap.size 5 3 x g gc gd gv b rv N ∧ NdT P0 i N ∧ BtF wr F (.slice A1 n1 c1) P0.bytes ∧ (∀ z, F z → w1.heap.size ≤ z) ∧ Kp No w1 wr)) (fun iv _ => n0 - (intOf iv).toNat)
          case atStart => exact ⟨0, Nat.zero_le _, rfl, HKR6⟩
          case round =>
            obtain ⟨i, hi, rfl, HW⟩ := hrel
            clear HKR6
            rename World => wr
            obtain ⟨N, F, gv7, b7, rv7, hs7, hT7, hB7, hF7, hk7⟩ := HW.out
            have HS7 := hide hs7
            have HT7 := hide hT7
            have HB7 := hide hB7
            have HF7 := hide hF7
            have HK7 := hide hk7
            clear hs7 hT7 hB7 hF7 hk7 HW
            by_cases hlt : i < n0
            · have hiz : (i : Int) < n0 := by omega
              obtain ⟨r, hr⟩ : ∃ r, qs[i]? = some r := ⟨_, List.getElem?_eq_getElem (by have := HA.out.len; omega)⟩
              obtain ⟨BB, off, A', m', c', hA0, hrq⟩ := HA.out.at_ i r hr
              subst hA0
              have HRQ := hide hrq
              have HRX : Hid (∀ w', Kp No w1 w' → RqAt w' BB (off + i * 8) r A' m' c') := fun w' hk => hrq.no hk
              clear hrq hr
              have x7 := (HRX.out _ HK7.out).c7
              by_cases hm : 100 < m'
              · have hmz : (100 : Int) < m' := by omega
                go_wp2_with fail
                refine (awake16_any _).mono ?_
                rintro e w9 ⟨rfl, k9⟩
                go_wp2
                go_ret
                exact ⟨rfl, (HK1.out.trans' HK7.out).trans' k9⟩
              · have hmz : ¬ (100 : Int) < m' := by omega
                have hX := HRX.out _ HK7.out
                obtain ⟨y0, y1, y2, y3, y4, y5, y6, y7, _, _⟩ := hX
                clear x7
                have HMM : Hid (m' ≤ 100) := by show m' ≤ 100; omega
                clear hm
                go_wp2_with fail
                refine (rright15_any r A' m' c').mono ?_
                rintro e w8 ⟨rfl, k8⟩
                have HS8 := hide (HS7.out.no k8)
                have HB8 := hide (HB7.out.no k8)
                have HK8 := hide (HK7.out.trans' k8)
                clear k8 y0 y1 y2 y3 y4 y5 y6 y7
                rcases hg : RgtB r.kind r.lost m' with _ | _
                · clear hg
                  go_wp2_with fail
                  go_round
                  case rel => exact ⟨i + 1, by omega, by go_num, N, F, gv7, b7, rv7, HS8.out, HT7.out.mono (Nat.le_succ _), HB8.out, HF7.out, HK8.out⟩
                  case measure => simp [intOf]; omega
                · have HRG : Hid (r.rgt = true) := by show RgtB r.kind r.lost r.data.length = true; rw [← HRQ.out.bts.len]; exact hg
                  clear hg
                  obtain ⟨y0, y1, y2, y3, y4, y5, y6, y7, _, _⟩ := HRX.out _ HK8.out
                  go_wp2_with fail
                  refine (rbytes15_any r HRQ.out.fit HRG.out (HRX.out _ HK8.out).bts (by have := HMM.out; omega)).mono ?_
                  rintro e wA ⟨AA, nA, cA, rfl, hoA, kA⟩
                  have HOA := hide hoA
                  have HSA := hide (HS8.out.no kA)
                  have HBA := hide (HB8.out.no kA)
                  have HKA := hide (HK8.out.trans' kA)
                  clear hoA kA y0 y1 y2 y3 y4 y5 y6 y7
                  go_wp2_with fail
                  refine (shandle_any HSA.out HD.out (HT7.out.sz.szk (by omega) (by omega) (by omega)) HOA.out.bts (by rw [Rq.bytes_len]; have h1 := HRQ.out.bts.len; have h2 := HMM.out; omega) (by have := HT7.out.sz.d; omega)).mono ?_
                  rintro e wB ⟨AB, nB, cB, rfl, _, ⟨FB, ⟨gvB, bB, rvB, hsB⟩, hFB, _⟩, kB⟩
                  have HSB := hide hsB
                  have HBB := hide (HBA.out.step kB hFB)
                  have HFB : Hid (∀ z, FB z → w1.heap.size ≤ z) := fun z f => (hFB z f).elim (HF7.out z) fun f => Nat.le_trans HKA.out.size f
                  have HKB := hide (HKA.out.trans (kB.mono fun z f => .inr (HF7.out z f)))
                  clear hsB hFB kB
                  go_wp2_with fail
                  go_round
                  case rel => exact ⟨i + 1, by omega, by go_num, _, FB, gvB, bB, rvB, HSB.out, HT7.out.handB (by omega), HBB.out, HFB.out, HKB.out⟩
                  case measure => simp [intOf]; omega
            · obtain rfl : i = n0 := by omega
              have hiz : ¬ (i : Int) < i := by omega
              have HSL := hide HS7.out.lt
              clear hlt
              go_wp2_with fail
              refine (svault_any HSL.out.blk).mono ?_
              rintro e w' ⟨rfl, rfl⟩
              go_wp2_with fail
              refine (vlistn_any HSL.out.vt (by rw [HT7.out.sz.n]; omega)).mono ?_
              rintro e w8 ⟨Aw, nw, cw, rfl, how, hnw, k8⟩
              have HS8 := hide (HSL.out.no k8)
              have HB8 := hide (HB7.out.no k8)
              have HK8 := hide (HK7.out.trans' k8)
              have HOW := hide how
              have HGE : Hid (∀ z, (Value.slice Aw nw cw).ownBlock = some z → ¬ (F z ∧ z < wr.heap.size)) := fun z e f => by have := how.ge z e; omega
              have HNW := hide hnw
              clear k8 how hnw
              go_wp2_with fail
              refine (sdone_any HS8.out.blk).mono ?_
              rintro e w' ⟨rfl, rfl⟩
              obtain ⟨z0, z1, z2, z3, z4, z5, z6, z7⟩ := (HQ.out.no HK8.out).cell
              go_wp2_with fail
              refine (rbytes15_any q HF.out HR.out (HB.out _ HK8.out) (by omega)).mono ?_
              rintro e wA ⟨AA, nA, cA, rfl, hoA, kA⟩
              have HOA := hide hoA
              have HSA := hide (HS8.out.no kA)
              have HBA := hide (HB8.out.no kA)
              have HKA := hide (HK8.out.trans' kA)
              have HOWA := hide (HOW.out.no kA)
              clear hoA kA z0 z1 z2 z3 z4 z5 z6 z7
              go_wp2_with fail
              refine (shandle_any HSA.out HD.out (HT7.out.sz.szk (by omega) (by omega) (by omega)) HOA.out.bts (by rw [Rq.bytes_len]; have := HL2.out; omega) (by have := HT7.out.sz.d; omega)).mono ?_
              rintro e wB ⟨AB, nB, cB, rfl, hoB, ⟨FB, ⟨gvB, bB, rvB, hsB⟩, hFB, _⟩, kB⟩
              rw [(HT7.out.again HF.out HR.out HCH.out HP0.out).1] at hsB
              rw [(HT7.out.again HF.out HR.out HCH.out HP0.out).2] at hoB
              have HSB := hide hsB
              have HOB := hide hoB
              have HBB := hide (HBA.out.keep kB fun z _ hn f => hn f.1)
              have HOWB := hide (HOWA.out.keep kB HGE.out)
              have HKB := hide (HKA.out.trans (kB.mono fun z f => .inr (HF7.out z f.1)))
              clear hsB hoB hFB kB
              go_wp2_with fail
              refine (svault_any HSB.out.blk).mono ?_
              rintro e w' ⟨rfl, rfl⟩
              go_wp2_with fail
              refine (vlistn_any HSB.out.vt (by rw [HT7.out.sz.n]; omega)).mono ?_
              rintro e wC ⟨Al, nl, cl, rfl, hol, hnl, kC⟩
              obtain rfl : nl = nw := by rw [hnl]; exact HNW.out.symm
              have HSC := hide (HSB.out.no kC)
              have HOL := hide hol
              have HOWC := hide (HOWB.out.no kC)
              have HKC := hide (HKB.out.trans' kC)
              have hcf := conv_bts (HBB.out.bts.no kC)
              have hca := conv_bts (HOB.out.bts.no kC)
              generalize strOf P0.bytes = ts at hcf hca
              have hn40 : nl ≤ 40 := by
                have h1 := HNW.out
                have h2 : N.V.lst.length = N.V.L.length := lst_len _ _
                have h3 : N.V.L.length ≤ N.V.D.cells.length := HSC.out.vt.ok.kn.len
                have h4 := HT7.out.sz.n
                omega
              have hn9 : ¬ (n1 : Int) < 9 := by have := HN9.out; omega
              clear hol hnl kC
              go_wp2_with fail
              refine (sdone_any HSC.out.blk).mono ?_
              rintro e w' ⟨rfl, rfl⟩
              go_wp2_with fail
              clear hcf hca
              go_loopw [17] (fun iv wr => ∃ i : Nat, i ≤ nl ∧ iv = .int .i64 (i : Int) ∧ Kp No wC wr) (fun iv _ => nl - (intOf iv).toNat)
              case atStart => exact ⟨0, Nat.zero_le _, rfl, Kp.refl _ _⟩
              case round =>
                obtain ⟨i, hi, rfl, hkr⟩ := hrel
                have HKR := hide hkr
                clear hkr
                rename World => wr
                by_cases hlt : i < nl
                · have hiz : (i : Int) < nl := by omega
                  obtain ⟨t, ht⟩ : ∃ t, N.V.lst[i]? = some t := ⟨_, List.getElem?_eq_getElem (by have := HNW.out; omega)⟩
                  have hol := HOL.out.no HKR.out
                  have how := HOWC.out.no HKR.out
                  have hlN : N.V.lst.length = nl := HNW.out.symm
                  rw [← hlN] at hol how
                  obtain ⟨gl, rfl, _, l0, l1, l2, l3⟩ := nm_cell hol ht
                  obtain ⟨gw, rfl, _, m0, m1, m2, m3⟩ := nm_cell how ht
                  clear ht hol how hlN
                  go_wp2_with fail
                  refine wp_region_noPanic ?_
                  refine wp_region_held_drew (S := fun w' => w'.cell? ⟨gw, i * 4, none⟩ = some (.int .u32 (cO t : Int)) ∧ w'.cell? ⟨gw, i * 4 + 1, none⟩ = some (.int .u16 (cS t : Int)) ∧ w'.cell? ⟨gw, i * 4 + 2, none⟩ = some (.int .u16 (cL t : Int)) ∧ w'.cell? ⟨gw, i * 4 + 3, none⟩ = some (.int .u32 (cG t : Int)) ∧ w'.cell? ⟨gl, i * 4, none⟩ = some (.int .u32 (cO t : Int)) ∧ w'.cell? ⟨gl, i * 4 + 1, none⟩ = some (.int .u16 (cS t : Int)) ∧ w'.cell? ⟨gl, i * 4 + 2, none⟩ = some (.int .u16 (cL t : Int)) ∧ w'.cell? ⟨gl, i * 4 + 3, none⟩ = some (.int .u32 (cG t : Int))) (by kernel_rfl) (⟨m0, m1, m2, m3, l0, l1, l2, l3⟩) (fun hHeld => ?_)
                  refine wpAnyH_take (i := 0) (v := ?vyx1) (oi := ?oyx1) ?hyx1 (by kernel_rfl) (by kernel_rfl) (by kernel_rfl) (fun _ _ _ h => h) (Or.inl ⟨?wyx1, ?yyx1⟩) hHeld ?ryx1
                  case hyx1 => simp only [List.getElem?_toArray, List.getElem?_cons_zero, List.getElem?_cons_succ]; rfl
                  case wyx1 => rfl
                  case yyx1 => intro w hSw; (try dsimp only at hSw); go_simp; (try with_reducible rfl)
                  simp only [Act.put, List.setIfInBounds_toArray, List.set_cons_zero, List.set_cons_succ]
                  refine wpAnyH_take (i := 1) (v := ?vyx2) (oi := ?oyx2) ?hyx2 (by kernel_rfl) (by kernel_rfl) (by kernel_rfl) (fun _ _ _ h => h) (Or.inl ⟨?wyx2, ?yyx2⟩) hHeld ?ryx2
                  case hyx2 => simp only [List.getElem?_toArray, List.getElem?_cons_zero, List.getElem?_cons_succ]; rfl
                  case wyx2 => rfl
                  case yyx2 => intro w hSw; (try dsimp only at hSw); go_simp; (try with_reducible rfl)
                  simp only [Act.put, List.setIfInBounds_toArray, List.set_cons_zero, List.set_cons_succ]
                  refine wpAnyH_take (i := 2) (v := ?vyx3) (oi := ?oyx3) ?hyx3 (by kernel_rfl) (by kernel_rfl) (by kernel_rfl) (fun _ _ _ h => h) (Or.inl ⟨?wyx3, ?yyx3⟩) hHeld ?ryx3
                  case hyx3 => simp only [List.getElem?_toArray, List.getElem?_cons_zero, List.getElem?_cons_succ]; rfl
                  case wyx3 => rfl
                  case yyx3 => intro w hSw; (try dsimp only at hSw); go_simp; (try with_reducible rfl)
                  simp only [Act.put, List.setIfInBounds_toArray, List.set_cons_zero, List.set_cons_succ]
                  refine wpAnyH_take (i := 3) (v := ?vyx4) (oi := ?oyx4) ?hyx4 (by kernel_rfl) (by kernel_rfl) (by kernel_rfl) (fun _ _ _ h => h) (Or.inl ⟨?wyx4, ?yyx4⟩) hHeld ?ryx4
                  case hyx4 => simp only [List.getElem?_toArray, List.getElem?_cons_zero, List.getElem?_cons_succ]; rfl
                  case wyx4 => rfl
                  case yyx4 => intro w hSw; (try dsimp only at hSw); go_simp; (try with_reducible rfl)
                  simp only [Act.put, List.setIfInBounds_toArray, List.set_cons_zero, List.set_cons_succ]
                  refine wpAnyH_take (i := 4) (v := ?vyx5) (oi := ?oyx5) ?hyx5 (by kernel_rfl) (by kernel_rfl) (by kernel_rfl) (fun _ _ _ h => h) (Or.inl ⟨?wyx5, ?yyx5⟩) hHeld ?ryx5
                  case hyx5 => simp only [List.getElem?_toArray, List.getElem?_cons_zero, List.getElem?_cons_succ]; rfl
                  case wyx5 => rfl
                  case yyx5 => intro w hSw; (try dsimp only at hSw); go_simp; (try with_reducible rfl)
                  simp only [Act.put, List.setIfInBounds_toArray, List.set_cons_zero, List.set_cons_succ]
                  refine wpAnyH_take (i := 5) (v := ?vyx6) (oi := ?oyx6) ?hyx6 (by kernel_rfl) (by kernel_rfl) (by kernel_rfl) (fun _ _ _ h => h) (Or.inl ⟨?wyx6, ?yyx6⟩) hHeld ?ryx6
                  case hyx6 => simp only [List.getElem?_toArray, List.getElem?_cons_zero, List.getElem?_cons_succ]; rfl
                  case wyx6 => rfl
                  case yyx6 => intro w hSw; (try dsimp only at hSw); go_simp; (try with_reducible rfl)
                  simp only [Act.put, List.setIfInBounds_toArray, List.set_cons_zero, List.set_cons_succ]
                  refine wpAnyH_take (i := 6) (v := ?vyx7) (oi := ?oyx7) ?hyx7 (by kernel_rfl) (by kernel_rfl) (by kernel_rfl) (fun _ _ _ h => h) (Or.inl ⟨?wyx7, ?yyx7⟩) hHeld ?ryx7
                  case hyx7 => simp only [List.getElem?_toArray, List.getElem?_cons_zero, List.getElem?_cons_succ]; rfl
                  case wyx7 => rfl
                  case yyx7 => intro w hSw; (try dsimp only at hSw); go_simp; (try with_reducible rfl)
                  simp only [Act.put, List.setIfInBounds_toArray, List.set_cons_zero, List.set_cons_succ]
                  refine wpAnyH_take (i := 7) (v := ?vyx8) (oi := ?oyx8) ?hyx8 (by kernel_rfl) (by kernel_rfl) (by kernel_rfl) (fun _ _ _ h => h) (Or.inl ⟨?wyx8, ?yyx8⟩) hHeld ?ryx8
                  case hyx8 => simp only [List.getElem?_toArray, List.getElem?_cons_zero, List.getElem?_cons_succ]; rfl
                  case wyx8 => rfl
                  case yyx8 => intro w hSw; (try dsimp only at hSw); go_simp; (try with_reducible rfl)
                  simp only [Act.put, List.setIfInBounds_toArray, List.set_cons_zero, List.set_cons_succ]
                  refine wpAnyH_take (i := 8) (v := ?vyx9) (oi := ?oyx9) ?hyx9 (by kernel_rfl) (by kernel_rfl) (by kernel_rfl) (fun _ _ _ h => h) (Or.inl ⟨?wyx9, ?yyx9⟩) hHeld ?ryx9
                  case hyx9 => simp only [List.getElem?_toArray, List.getElem?_cons_zero, List.getElem?_cons_succ]; rfl
                  case wyx9 => rfl
                  case yyx9 => intro w hSw; (try dsimp only at hSw); go_simp; (try with_reducible rfl)
                  simp only [Act.put, List.setIfInBounds_toArray, List.set_cons_zero, List.set_cons_succ]
                  refine wpAnyH_done (by kernel_rfl) ?_ _
                  refine NoPanic.normal ?_
                  clear hHeld
                  go_wp2_with fail
                  go_round
                  case rel => exact ⟨i + 1, by omega, by go_num, HKR.out.drew⟩
                  case measure => simp [intOf]; omega
                · obtain rfl : i = nl := by omega
                  have hiz : ¬ (i : Int) < i := by omega
                  go_wp2_with fail
                  refine (awake16_any _).mono ?_
                  rintro e w9 ⟨rfl, k9⟩
                  go_wp2
                  go_ret
                  exact ⟨rfl, (HK1.out.trans' (HKC.out.trans' HKR.out)).trans' k9⟩
  have t2 : (q.kind != 2) = true := bne_iff_ne.2 e2
  have t5 : (q.kind != 5) = true := bne_iff_ne.2 e5
  clear e2 e5
  go_wp2_with fail
  refine (awake16_any _).mono ?_
  rintro e w9 ⟨rfl, k9⟩
  go_wp2
  go_ret
  exact ⟨rfl, HK1.out.trans' k9⟩
theorem servertwice_walk (W : World) (q : Rq) {u : Value} (hf : q.Fit) (hb : Bts W u q.data) {A0 : Option Addr} {n0 c0 : Nat} {qs : List Rq} (h0 : Rqs W A0 n0 qs) :
    Calls Tryz.prog 4 #[rqV q u, .slice A0 n0 c0] W fun e W' => e = .returned (.bool true) ∧ Below W.heap.size W W' := by
  obtain ⟨A, m, c, rfl⟩ := hb.form
  exact (servertwice_any W q hf hb h0).mono fun e W' p => ⟨p.1, p.2.below0⟩
end Go.Proofs.YtnfcfdhlmeimhaaGreat
