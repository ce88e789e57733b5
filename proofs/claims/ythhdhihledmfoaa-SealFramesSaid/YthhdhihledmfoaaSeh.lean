/- SealFrames walked: it returns true for any number and any bytes; no condition. -/
import Derived.Test.YthhdhihledmfoaaSem
import Derived.Test.YthhdhihledmfoaaSef
import Derived.Deep.RegionHeld3
import Derived.OpenShut
namespace Go.Proofs.Ythhdhihledmfoaa
open Go.ChangeShapes Go.WideShapes Go.RowKit
set_option linter.unusedVariables false
set_option linter.unusedSimpArgs false

theorem sealframes_no (W : World) {A0 A1 : Option Addr} {n0 c0 n1 c1 : Nat} (k : Nat) (hs : 1000 < n0 ∨ (n0 ≤ 1000 ∧ 100 < n1)) :
    Calls Try.prog 4 #[.int .u16 k, .slice A0 n0 c0, .slice A1 n1 c1] W (TruePost W) := by
  rcases hs with h | ⟨h, h1⟩
  all_goals
    go_enter Try.func4, Try.ntmps4
    go_wp2_with (go_at_call 8; refine (awake10_any _).mono ?_; rintro e w1 hp; obtain rfl := hp.1)
    go_ret
    exact ⟨rfl, hp.2⟩

set_option maxRecDepth 100000 in
set_option maxHeartbeats 4000000 in
theorem sealframes_yes (W : World) {A0 A1 : Option Addr} {n0 c0 n1 c1 : Nat} (k : Nat) (hk : k < 65536) {bs ms : List UInt8} (hb : Bts W (.slice A0 n0 c0) bs) (hm : Bts W (.slice A1 n1 c1) ms) (h0 : n0 ≤ 1000) (h1 : n1 ≤ 100) :
    Calls Try.prog 4 #[.int .u16 k, .slice A0 n0 c0, .slice A1 n1 c1] W (TruePost W) := by
  obtain ⟨i0, hi0, hz0, hz1, hz2⟩ := byte_parts
  have l0 : bs.length ≤ 1000 := by have := hb.len; omega
  have l1 : ms.length ≤ 100 := by have := hm.len; omega
  obtain ⟨tf, htf⟩ : ∃ t, t = strOf (frm k bs) := ⟨_, rfl⟩
  obtain ⟨tb, htb⟩ : ∃ t, t = strOf bs := ⟨_, rfl⟩
  have HTF := hide htf
  have HTB := hide htb
  have HFO := hide (frm_open (m := ms) hk (by omega : bs.length ≤ 65536))
  have HBL := hide hb.len
  clear htf htb
  go_enter Try.func4, Try.ntmps4
  go_wp2_with fail
  refine (sfr_yes hb hk (by omega)).mono ?_
  rintro e w1 ⟨A1', n1', c1', rfl, ho1, hk1⟩
  have fl := frm_len k bs
  obtain ⟨N, hN⟩ : ∃ N, N = 12 + n0 := ⟨_, rfl⟩
  obtain rfl : N = n1' := by rw [ho1.len, fl, hN, HBL.out]
  have HN := hide hN
  clear hN
  have z1 := hk1.size
  go_wp2_with (first
    | (at_builtin
       refine wpList_app rfl (.tmp 25) (.tmp 26) _ rfl i0 Try.underlying22 hi0 hz0 hz1 hz2 rfl (own_empty w1) rfl (ho1.bts.no (Kp.alloc No w1 _)) ?hl (by simp) ?_
       case hl => rw [fl]; simp; omega
       intro A2 n2 c2 w2 h2
       have k2 : Kp No w1 w2 := h2.keeps (own_empty w1) (Kp.alloc No w1 _)
       have z2 := k2.size)
    | (at_builtin
       refine wpList_app rfl (.tmp 27) (.tmp 28) _ rfl i0 Try.underlying22 hi0 hz0 hz1 hz2 rfl h2.own rfl (hm.no (hk1.trans' k2)) ?hl z2 ?_
       case hl => rw [List.nil_append, fl]; omega
       intro A3 n3 c3 w3 h3
       have k3 : Kp No w1 w3 := h3.keeps h2.own k2))
  have o3 : Own w3 w1.heap.size 5 (.slice A3 n3 c3) (frm k bs ++ ms) := by have := h3.own; rwa [List.nil_append] at this
  refine (sopen_any o3.bts (own_cap o3) (by rw [o3.len, List.length_append, fl]; omega)).mono ?_
  rintro e w4 ⟨A4, n4, c4, rfl, ho4, hk4⟩
  rw [HFO.out.1, HFO.out.2.1, HFO.out.2.2.2]
  have ho4' := ho4
  rw [HFO.out.2.2.1] at ho4'
  have eN : 12 + bs.length = N := by rw [HN.out, HBL.out]
  rw [eN]
  clear eN ho4
  have K14 : Kp No w1 w4 := k3.trans' hk4
  have K4 := hide (hk1.trans' K14)
  have BF := hide (ho1.bts.no K14)
  have BL := hide ho4'.bts
  have BB := hide (hb.no K4.out)
  have hrf : ∀ w', Kp No w4 w' → Calls Try.prog 14 #[.int .u16 k, .slice A0 n0 c0] w' (OwnPost w' (frm k bs)) := fun w' hk' => rfr_any (BB.out.no hk') hk (by omega)
  have HRF := hide hrf
  clear hrf o3 h3 h2 ho1 ho4' fl z1 z2 k2 k3 hk1 hk4 K14 hb hm
  go_wp2_with fail
  refine wp_region_noPanic ?_
  refine wp_region_held_drew (S := fun w' => Kp No w4 w') (by kernel_rfl) ((Kp.refl No w4).drew) (fun hHeld => ?_)
  refine wpAnyH_take (i := 0) (v := ?vfx1) (oi := ?ofx1) ?hfx1 (by kernel_rfl) (by kernel_rfl) (by kernel_rfl) (fun _ _ _ h => h) (Or.inl ⟨?wfx1, ?yfx1⟩) hHeld ?rfx1
  case hfx1 => simp only [List.getElem?_toArray, List.getElem?_cons_zero, List.getElem?_cons_succ]; rfl
  case wfx1 => rfl
  case yfx1 => intro w hSw; (try dsimp only at hSw); go_simp; (try with_reducible rfl)
  simp only [Act.put, List.setIfInBounds_toArray, List.set_cons_zero, List.set_cons_succ]
  refine wpAnyH_take (i := 1) (v := ?vfx2) (oi := ?ofx2) ?hfx2 (by kernel_rfl) (by kernel_rfl) (by kernel_rfl) (fun _ _ _ h => h) (Or.inl ⟨?wfx2, ?yfx2⟩) hHeld ?rfx2
  case hfx2 => simp only [List.getElem?_toArray, List.getElem?_cons_zero, List.getElem?_cons_succ]; rfl
  case wfx2 => rfl
  case yfx2 =>
    intro w hSw
    (try dsimp only at hSw)
    have cf := conv_bts (BF.out.no hSw)
    rw [← HTF.out] at cf
    go_simp
    try with_reducible rfl
  simp only [Act.put, List.setIfInBounds_toArray, List.set_cons_zero, List.set_cons_succ]
  refine wpAnyH_take (i := 2) (v := ?vfx3) (oi := ?ofx3) ?hfx3 (by kernel_rfl) (by kernel_rfl) (by kernel_rfl) (fun _ _ _ h => h) (Or.inl ⟨?wfx3, ?yfx3⟩) hHeld ?rfx3
  case hfx3 => simp only [List.getElem?_toArray, List.getElem?_cons_zero, List.getElem?_cons_succ]; rfl
  case wfx3 => rfl
  case yfx3 => intro w hSw; (try dsimp only at hSw); go_simp; (try with_reducible rfl)
  simp only [Act.put, List.setIfInBounds_toArray, List.set_cons_zero, List.set_cons_succ]
  refine wpAnyH_take (i := 3) (v := ?vfx4) (oi := ?ofx4) ?hfx4 (by kernel_rfl) (by kernel_rfl) (by kernel_rfl) (fun _ _ _ h => h) (Or.inl ⟨?wfx4, ?yfx4⟩) hHeld ?rfx4
  case hfx4 => simp only [List.getElem?_toArray, List.getElem?_cons_zero, List.getElem?_cons_succ]; rfl
  case wfx4 => rfl
  case yfx4 => intro w hSw; (try dsimp only at hSw); go_simp; (try with_reducible rfl)
  simp only [Act.put, List.setIfInBounds_toArray, List.set_cons_zero, List.set_cons_succ]
  refine wpAnyH_ready (rs := [4]) (by kernel_rfl) (by simp) ?_
  refine AllReadyH.cons (o := ?ofx5) ?hfx5 (fun K hK => ?sfx5) AllReadyH.nil
  case hfx5 => simp only [List.getElem?_toArray, List.getElem?_cons_zero, List.getElem?_cons_succ]; rfl
  go_simp
  refine (HRF.out _ hHeld).mono ?_
  rintro e w5 ⟨A5, n5, c5, rfl, ho5, hk5⟩
  have cr := conv_bts ho5.bts
  rw [← HTF.out] at cr
  go_wp2_with fail
  refine hK.out _ _ (hHeld.trans' hk5) (fun hHeld => ?_)
  clear hK K
  try simp only [Act.put, List.setIfInBounds_toArray, List.set_cons_zero, List.set_cons_succ]
  refine wpAnyH_ready (rs := [5]) (by kernel_rfl) (by simp) ?_
  refine AllReadyH.cons (o := ?ofx6) ?hfx6 (fun K hK => ?sfx6) AllReadyH.nil
  case hfx6 => simp only [List.getElem?_toArray, List.getElem?_cons_zero, List.getElem?_cons_succ]; rfl
  go_simp
  refine hK.out _ _ (hHeld) (fun hHeld => ?_)
  clear hK K
  try simp only [Act.put, List.setIfInBounds_toArray, List.set_cons_zero, List.set_cons_succ]
  refine wpAnyH_take (i := 6) (v := ?vfx7) (oi := ?ofx7) ?hfx7 (by kernel_rfl) (by kernel_rfl) (by kernel_rfl) (fun _ _ _ h => h) (Or.inl ⟨?wfx7, ?yfx7⟩) hHeld ?rfx7
  case hfx7 => simp only [List.getElem?_toArray, List.getElem?_cons_zero, List.getElem?_cons_succ]; rfl
  case wfx7 => rfl
  case yfx7 => intro w hSw; (try dsimp only at hSw); go_simp; (try with_reducible rfl)
  simp only [Act.put, List.setIfInBounds_toArray, List.set_cons_zero, List.set_cons_succ]
  refine wpAnyH_take (i := 7) (v := ?vfx8) (oi := ?ofx8) ?hfx8 (by kernel_rfl) (by kernel_rfl) (by kernel_rfl) (fun _ _ _ h => h) (Or.inl ⟨?wfx8, ?yfx8⟩) hHeld ?rfx8
  case hfx8 => simp only [List.getElem?_toArray, List.getElem?_cons_zero, List.getElem?_cons_succ]; rfl
  case wfx8 => rfl
  case yfx8 => intro w hSw; (try dsimp only at hSw); go_simp; (try with_reducible rfl)
  simp only [Act.put, List.setIfInBounds_toArray, List.set_cons_zero, List.set_cons_succ]
  refine wpAnyH_take (i := 8) (v := ?vfx9) (oi := ?ofx9) ?hfx9 (by kernel_rfl) (by kernel_rfl) (by kernel_rfl) (fun _ _ _ h => h) (Or.inl ⟨?wfx9, ?yfx9⟩) hHeld ?rfx9
  case hfx9 => simp only [List.getElem?_toArray, List.getElem?_cons_zero, List.getElem?_cons_succ]; rfl
  case wfx9 => rfl
  case yfx9 => intro w hSw; (try dsimp only at hSw); go_simp; (try with_reducible rfl)
  simp only [Act.put, List.setIfInBounds_toArray, List.set_cons_zero, List.set_cons_succ]
  refine wpAnyH_take (i := 9) (v := ?vfx10) (oi := ?ofx10) ?hfx10 (by kernel_rfl) (by kernel_rfl) (by kernel_rfl) (fun _ _ _ h => h) (Or.inl ⟨?wfx10, ?yfx10⟩) hHeld ?rfx10
  case hfx10 => simp only [List.getElem?_toArray, List.getElem?_cons_zero, List.getElem?_cons_succ]; rfl
  case wfx10 => rfl
  case yfx10 => intro w hSw; (try dsimp only at hSw); go_simp; (try with_reducible rfl)
  simp only [Act.put, List.setIfInBounds_toArray, List.set_cons_zero, List.set_cons_succ]
  refine wpAnyH_take (i := 10) (v := ?vfx11) (oi := ?ofx11) ?hfx11 (by kernel_rfl) (by kernel_rfl) (by kernel_rfl) (fun _ _ _ h => h) (Or.inl ⟨?wfx11, ?yfx11⟩) hHeld ?rfx11
  case hfx11 => simp only [List.getElem?_toArray, List.getElem?_cons_zero, List.getElem?_cons_succ]; rfl
  case wfx11 => rfl
  case yfx11 => intro w hSw; (try dsimp only at hSw); go_simp; (try with_reducible rfl)
  simp only [Act.put, List.setIfInBounds_toArray, List.set_cons_zero, List.set_cons_succ]
  refine wpAnyH_take (i := 11) (v := ?vfx12) (oi := ?ofx12) ?hfx12 (by kernel_rfl) (by kernel_rfl) (by kernel_rfl) (fun _ _ _ h => h) (Or.inl ⟨?wfx12, ?yfx12⟩) hHeld ?rfx12
  case hfx12 => simp only [List.getElem?_toArray, List.getElem?_cons_zero, List.getElem?_cons_succ]; rfl
  case wfx12 => rfl
  case yfx12 => intro w hSw; (try dsimp only at hSw); go_simp; (try with_reducible rfl)
  simp only [Act.put, List.setIfInBounds_toArray, List.set_cons_zero, List.set_cons_succ]
  refine wpAnyH_take (i := 12) (v := ?vfx13) (oi := ?ofx13) ?hfx13 (by kernel_rfl) (by kernel_rfl) (by kernel_rfl) (fun _ _ _ h => h) (Or.inl ⟨?wfx13, ?yfx13⟩) hHeld ?rfx13
  case hfx13 => simp only [List.getElem?_toArray, List.getElem?_cons_zero, List.getElem?_cons_succ]; rfl
  case wfx13 => rfl
  case yfx13 => intro w hSw; (try dsimp only at hSw); go_simp; (try with_reducible rfl)
  simp only [Act.put, List.setIfInBounds_toArray, List.set_cons_zero, List.set_cons_succ]
  refine wpAnyH_take (i := 13) (v := ?vfx14) (oi := ?ofx14) ?hfx14 (by kernel_rfl) (by kernel_rfl) (by kernel_rfl) (fun _ _ _ h => h) (Or.inl ⟨?wfx14, ?yfx14⟩) hHeld ?rfx14
  case hfx14 => simp only [List.getElem?_toArray, List.getElem?_cons_zero, List.getElem?_cons_succ]; rfl
  case wfx14 => rfl
  case yfx14 => intro w hSw; (try dsimp only at hSw); go_simp; (try with_reducible rfl)
  simp only [Act.put, List.setIfInBounds_toArray, List.set_cons_zero, List.set_cons_succ]
  refine wpAnyH_take (i := 14) (v := ?vfx15) (oi := ?ofx15) ?hfx15 (by kernel_rfl) (by kernel_rfl) (by kernel_rfl) (fun _ _ _ h => h) (Or.inl ⟨?wfx15, ?yfx15⟩) hHeld ?rfx15
  case hfx15 => simp only [List.getElem?_toArray, List.getElem?_cons_zero, List.getElem?_cons_succ]; rfl
  case wfx15 => rfl
  case yfx15 =>
    intro w hSw
    (try dsimp only at hSw)
    have cf := conv_bts (BL.out.no hSw)
    rw [← HTB.out] at cf
    go_simp
    try with_reducible rfl
  simp only [Act.put, List.setIfInBounds_toArray, List.set_cons_zero, List.set_cons_succ]
  refine wpAnyH_take (i := 15) (v := ?vfx16) (oi := ?ofx16) ?hfx16 (by kernel_rfl) (by kernel_rfl) (by kernel_rfl) (fun _ _ _ h => h) (Or.inl ⟨?wfx16, ?yfx16⟩) hHeld ?rfx16
  case hfx16 => simp only [List.getElem?_toArray, List.getElem?_cons_zero, List.getElem?_cons_succ]; rfl
  case wfx16 => rfl
  case yfx16 => intro w hSw; (try dsimp only at hSw); go_simp; (try with_reducible rfl)
  simp only [Act.put, List.setIfInBounds_toArray, List.set_cons_zero, List.set_cons_succ]
  refine wpAnyH_take (i := 16) (v := ?vfx17) (oi := ?ofx17) ?hfx17 (by kernel_rfl) (by kernel_rfl) (by kernel_rfl) (fun _ _ _ h => h) (Or.inl ⟨?wfx17, ?yfx17⟩) hHeld ?rfx17
  case hfx17 => simp only [List.getElem?_toArray, List.getElem?_cons_zero, List.getElem?_cons_succ]; rfl
  case wfx17 => rfl
  case yfx17 =>
    intro w hSw
    (try dsimp only at hSw)
    have cf := conv_bts (BB.out.no hSw)
    rw [← HTB.out] at cf
    go_simp
    try with_reducible rfl
  simp only [Act.put, List.setIfInBounds_toArray, List.set_cons_zero, List.set_cons_succ]
  refine wpAnyH_take (i := 17) (v := ?vfx18) (oi := ?ofx18) ?hfx18 (by kernel_rfl) (by kernel_rfl) (by kernel_rfl) (fun _ _ _ h => h) (Or.inl ⟨?wfx18, ?yfx18⟩) hHeld ?rfx18
  case hfx18 => simp only [List.getElem?_toArray, List.getElem?_cons_zero, List.getElem?_cons_succ]; rfl
  case wfx18 => rfl
  case yfx18 => intro w hSw; (try dsimp only at hSw); go_simp; (try with_reducible rfl)
  simp only [Act.put, List.setIfInBounds_toArray, List.set_cons_zero, List.set_cons_succ]
  refine wpAnyH_take (i := 18) (v := ?vfx19) (oi := ?ofx19) ?hfx19 (by kernel_rfl) (by kernel_rfl) (by kernel_rfl) (fun _ _ _ h => h) (Or.inl ⟨?wfx19, ?yfx19⟩) hHeld ?rfx19
  case hfx19 => simp only [List.getElem?_toArray, List.getElem?_cons_zero, List.getElem?_cons_succ]; rfl
  case wfx19 => rfl
  case yfx19 => intro w hSw; (try dsimp only at hSw); go_simp; (try with_reducible rfl)
  simp only [Act.put, List.setIfInBounds_toArray, List.set_cons_zero, List.set_cons_succ]
  refine wpAnyH_take (i := 19) (v := ?vfx20) (oi := ?ofx20) ?hfx20 (by kernel_rfl) (by kernel_rfl) (by kernel_rfl) (fun _ _ _ h => h) (Or.inl ⟨?wfx20, ?yfx20⟩) hHeld ?rfx20
  case hfx20 => simp only [List.getElem?_toArray, List.getElem?_cons_zero, List.getElem?_cons_succ]; rfl
  case wfx20 => rfl
  case yfx20 => intro w hSw; (try dsimp only at hSw); go_simp; (try with_reducible rfl)
  simp only [Act.put, List.setIfInBounds_toArray, List.set_cons_zero, List.set_cons_succ]
  refine wpAnyH_take (i := 20) (v := ?vfx21) (oi := ?ofx21) ?hfx21 (by kernel_rfl) (by kernel_rfl) (by kernel_rfl) (fun _ _ _ h => h) (Or.inl ⟨?wfx21, ?yfx21⟩) hHeld ?rfx21
  case hfx21 => simp only [List.getElem?_toArray, List.getElem?_cons_zero, List.getElem?_cons_succ]; rfl
  case wfx21 => rfl
  case yfx21 => intro w hSw; (try dsimp only at hSw); go_simp; (try with_reducible rfl)
  simp only [Act.put, List.setIfInBounds_toArray, List.set_cons_zero, List.set_cons_succ]
  refine wpAnyH_take (i := 21) (v := ?vfx22) (oi := ?ofx22) ?hfx22 (by kernel_rfl) (by kernel_rfl) (by kernel_rfl) (fun _ _ _ h => h) (Or.inl ⟨?wfx22, ?yfx22⟩) hHeld ?rfx22
  case hfx22 => simp only [List.getElem?_toArray, List.getElem?_cons_zero, List.getElem?_cons_succ]; rfl
  case wfx22 => rfl
  case yfx22 => intro w hSw; (try dsimp only at hSw); go_simp; (try with_reducible rfl)
  simp only [Act.put, List.setIfInBounds_toArray, List.set_cons_zero, List.set_cons_succ]
  refine wpAnyH_take (i := 22) (v := ?vfx23) (oi := ?ofx23) ?hfx23 (by kernel_rfl) (by kernel_rfl) (by kernel_rfl) (fun _ _ _ h => h) (Or.inl ⟨?wfx23, ?yfx23⟩) hHeld ?rfx23
  case hfx23 => simp only [List.getElem?_toArray, List.getElem?_cons_zero, List.getElem?_cons_succ]; rfl
  case wfx23 => rfl
  case yfx23 => intro w hSw; (try dsimp only at hSw); go_simp; (try with_reducible rfl)
  simp only [Act.put, List.setIfInBounds_toArray, List.set_cons_zero, List.set_cons_succ]
  refine wpAnyH_take (i := 23) (v := ?vfx24) (oi := ?ofx24) ?hfx24 (by kernel_rfl) (by kernel_rfl) (by kernel_rfl) (fun _ _ _ h => h) (Or.inl ⟨?wfx24, ?yfx24⟩) hHeld ?rfx24
  case hfx24 => simp only [List.getElem?_toArray, List.getElem?_cons_zero, List.getElem?_cons_succ]; rfl
  case wfx24 => rfl
  case yfx24 => intro w hSw; (try dsimp only at hSw); go_simp; (try with_reducible rfl)
  simp only [Act.put, List.setIfInBounds_toArray, List.set_cons_zero, List.set_cons_succ]
  refine wpAnyH_take (i := 24) (v := ?vfx25) (oi := ?ofx25) ?hfx25 (by kernel_rfl) (by kernel_rfl) (by kernel_rfl) (fun _ _ _ h => h) (Or.inl ⟨?wfx25, ?yfx25⟩) hHeld ?rfx25
  case hfx25 => simp only [List.getElem?_toArray, List.getElem?_cons_zero, List.getElem?_cons_succ]; rfl
  case wfx25 => rfl
  case yfx25 => intro w hSw; (try dsimp only at hSw); go_simp; (try with_reducible rfl)
  simp only [Act.put, List.setIfInBounds_toArray, List.set_cons_zero, List.set_cons_succ]
  refine wpAnyH_take (i := 25) (v := ?vfx26) (oi := ?ofx26) ?hfx26 (by kernel_rfl) (by kernel_rfl) (by kernel_rfl) (fun _ _ _ h => h) (Or.inl ⟨?wfx26, ?yfx26⟩) hHeld ?rfx26
  case hfx26 => simp only [List.getElem?_toArray, List.getElem?_cons_zero, List.getElem?_cons_succ]; rfl
  case wfx26 => rfl
  case yfx26 => intro w hSw; (try dsimp only at hSw); go_simp; (try with_reducible rfl)
  simp only [Act.put, List.setIfInBounds_toArray, List.set_cons_zero, List.set_cons_succ]
  refine wpAnyH_take (i := 26) (v := ?vfx27) (oi := ?ofx27) ?hfx27 (by kernel_rfl) (by kernel_rfl) (by kernel_rfl) (fun _ _ _ h => h) (Or.inl ⟨?wfx27, ?yfx27⟩) hHeld ?rfx27
  case hfx27 => simp only [List.getElem?_toArray, List.getElem?_cons_zero, List.getElem?_cons_succ]; rfl
  case wfx27 => rfl
  case yfx27 => intro w hSw; (try dsimp only at hSw); go_simp; (try with_reducible rfl)
  simp only [Act.put, List.setIfInBounds_toArray, List.set_cons_zero, List.set_cons_succ]
  refine wpAnyH_take (i := 27) (v := ?vfx28) (oi := ?ofx28) ?hfx28 (by kernel_rfl) (by kernel_rfl) (by kernel_rfl) (fun _ _ _ h => h) (Or.inl ⟨?wfx28, ?yfx28⟩) hHeld ?rfx28
  case hfx28 => simp only [List.getElem?_toArray, List.getElem?_cons_zero, List.getElem?_cons_succ]; rfl
  case wfx28 => rfl
  case yfx28 => intro w hSw; (try dsimp only at hSw); go_simp; (try with_reducible rfl)
  simp only [Act.put, List.setIfInBounds_toArray, List.set_cons_zero, List.set_cons_succ]
  refine wpAnyH_take (i := 28) (v := ?vfx29) (oi := ?ofx29) ?hfx29 (by kernel_rfl) (by kernel_rfl) (by kernel_rfl) (fun _ _ _ h => h) (Or.inl ⟨?wfx29, ?yfx29⟩) hHeld ?rfx29
  case hfx29 => simp only [List.getElem?_toArray, List.getElem?_cons_zero, List.getElem?_cons_succ]; rfl
  case wfx29 => rfl
  case yfx29 => intro w hSw; (try dsimp only at hSw); go_simp; (try with_reducible rfl)
  simp only [Act.put, List.setIfInBounds_toArray, List.set_cons_zero, List.set_cons_succ]
  refine wpAnyH_take (i := 29) (v := ?vfx30) (oi := ?ofx30) ?hfx30 (by kernel_rfl) (by kernel_rfl) (by kernel_rfl) (fun _ _ _ h => h) (Or.inl ⟨?wfx30, ?yfx30⟩) hHeld ?rfx30
  case hfx30 => simp only [List.getElem?_toArray, List.getElem?_cons_zero, List.getElem?_cons_succ]; rfl
  case wfx30 => rfl
  case yfx30 => intro w hSw; (try dsimp only at hSw); go_simp; (try with_reducible rfl)
  simp only [Act.put, List.setIfInBounds_toArray, List.set_cons_zero, List.set_cons_succ]
  refine wpAnyH_ready (rs := [30]) (by kernel_rfl) (by simp) ?_
  refine AllReadyH.cons (o := ?ofx31) ?hfx31 (fun K hK => ?sfx31) AllReadyH.nil
  case hfx31 => simp only [List.getElem?_toArray, List.getElem?_cons_zero, List.getElem?_cons_succ]; rfl
  go_simp
  refine (awake10_any _).mono ?_
  rintro e w6 ⟨rfl, hk6⟩
  go_wp2_with fail
  refine hK.out _ _ (hHeld.trans' hk6) (fun hHeld => ?_)
  clear hK K
  try simp only [Act.put, List.setIfInBounds_toArray, List.set_cons_zero, List.set_cons_succ]
  refine wpAnyH_take (i := 31) (v := ?vfx32) (oi := ?ofx32) ?hfx32 (by kernel_rfl) (by kernel_rfl) (by kernel_rfl) (fun _ _ _ h => h) (Or.inl ⟨?wfx32, ?yfx32⟩) hHeld ?rfx32
  case hfx32 => simp only [List.getElem?_toArray, List.getElem?_cons_zero, List.getElem?_cons_succ]; rfl
  case wfx32 => rfl
  case yfx32 => intro w hSw; (try dsimp only at hSw); go_simp; (try with_reducible rfl)
  simp only [Act.put, List.setIfInBounds_toArray, List.set_cons_zero, List.set_cons_succ]
  refine wpAnyH_take (i := 32) (v := ?vfx33) (oi := ?ofx33) ?hfx33 (by kernel_rfl) (by kernel_rfl) (by kernel_rfl) (fun _ _ _ h => h) (Or.inl ⟨?wfx33, ?yfx33⟩) hHeld ?rfx33
  case hfx33 => simp only [List.getElem?_toArray, List.getElem?_cons_zero, List.getElem?_cons_succ]; rfl
  case wfx33 => rfl
  case yfx33 => intro w hSw; (try dsimp only at hSw); go_simp; (try with_reducible rfl)
  simp only [Act.put, List.setIfInBounds_toArray, List.set_cons_zero, List.set_cons_succ]
  refine wpAnyH_done (by kernel_rfl) ?_ _
  refine NoPanic.normal ?_
  have K6 := hHeld
  go_wp2_with fail
  go_ret
  exact ⟨rfl, K4.out.trans' K6⟩

theorem sealframes_walk (W : World) (z : Int) (hz : (Lit.int .u16 z).wf = true) {A0 A1 : Option Addr} {n0 c0 n1 c1 : Nat} {bs ms : List UInt8} (hb : Bts W (.slice A0 n0 c0) bs) (hm : Bts W (.slice A1 n1 c1) ms) :
    Calls Try.prog 4 #[.int .u16 z, .slice A0 n0 c0, .slice A1 n1 c1] W fun e W' => e = .returned (.bool true) ∧ Below W.heap.size W W' := by
  have hv := bounds_u16 hz
  obtain ⟨k, rfl⟩ := Int.eq_ofNat_of_zero_le hv.1
  by_cases h : 1000 < n0 ∨ (n0 ≤ 1000 ∧ 100 < n1)
  · exact (sealframes_no W k h).mono fun e W' p => ⟨p.1, p.2.below0⟩
  · exact (sealframes_yes W k (by omega) hb hm (by omega) (by omega)).mono fun e W' p => ⟨p.1, p.2.below0⟩
end Go.Proofs.Ythhdhihledmfoaa
