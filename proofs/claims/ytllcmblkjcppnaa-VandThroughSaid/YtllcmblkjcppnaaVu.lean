/- The document's Through, as a contract over memory. -/
import Derived.Test.YtllcmblkjcppnaaVr
import Derived.Test.YtllcmblkjcppnaaRs
import Derived.Test.YtllcmblkjcppnaaRg
import Derived.Test.YtllcmblkjcppnaaOc
import Derived.Test.YtllcmblkjcppnaaSs
import Derived.Deep.RegionHeld3
namespace Go.Proofs.Ytllcmblkjcppnaa
open Go.RowKit
set_option linter.unusedVariables false
set_option linter.unusedSimpArgs false

theorem eq_row {n : Nat} (p v : Nat → UInt8) (k : Nat) {y u : UInt8} (hy : p k = y) (hu : v k = u) : rowL n (upw y) ++ [u] = rowL (n + 1) (eqF n p v k) := by
  rw [rowL_succ]
  congr 1
  · refine List.map_congr_left fun j hj => ?_
    unfold eqF catF vF
    rw [if_pos (List.mem_range.1 hj), hy]
  · unfold eqF catF
    rw [if_neg (Nat.lt_irrefl n)]
    show [u] = [v k]
    rw [hu]

set_option maxHeartbeats 8000000 in
set_option maxRecDepth 100000 in
theorem rthrough_any {w : World} {A A' : Option Addr} {n c c' : Nat} {bs vs : List UInt8} (h : Bts w (.slice A n c) bs) (h' : Bts w (.slice A' n c') vs) (n1 : 1 ≤ n) (n2 : n ≤ 64) (hU : Uq n (lg bs)) : Calls Try.prog 19 #[.slice A n c, .slice A' n c'] w (OwnPost w (rowL n (nF n (lg bs) (lg vs) n))) := by
  obtain ⟨i0, hi0, hz0, hz1, hz2⟩ := byte_parts
  have HU := hide hU
  have hn3 : n ≤ 1000 := by omega
  clear hU
  go_enter Try.func19, Try.ntmps19
  go_wp2_with fail
  go_loopw [5, 6] (fun v i wr => ∃ (k : Nat) (A3 : Option Addr) (n3 cp3 : Nat) (us : List Value), k ≤ n ∧ i = .int .i64 (k : Int) ∧ v = .slice A3 n3 cp3 ∧ RInv w (fun i => rowL (n + 1) (eqF n (lg bs) (lg vs) i)) k (.slice A3 n3 cp3) us wr) (fun _ i _ => n - (intOf i).toNat)
  case atStart => exact ⟨0, none, 0, 0, [], Nat.zero_le _, rfl, rfl, OwnV.nil _ _, rfl, (fun j u hj => by simp at hj), Kp.refl _ _⟩
  case round =>
    obtain ⟨k, A3, n3, cp3, us, hk, rfl, rfl, hI⟩ := hrel
    by_cases hlt : k < n
    · obtain ⟨B1, o1, y, rfl, hy, x1⟩ := (h.no hI.kp).at_ hlt
      obtain ⟨B2, o2, u, rfl, hu, x2⟩ := (h'.no hI.kp).at_ hlt
      obtain ⟨_, _, y', e1, hy', g1⟩ := h.at_ hlt
      obtain ⟨_, _, u', e2, hu', g2⟩ := h'.at_ hlt
      injection e1 with e1
      injection e1 with e11 e12
      subst e11 e12
      injection e2 with e2
      injection e2 with e21 e22
      subst e21 e22
      rw [hy] at hy'
      rw [hu] at hu'
      injection hy' with hy'
      injection hu' with hu'
      subst hy' hu'
      have z0 : Hid (w.cell? ⟨B1, o1 + k, none⟩ = some (.int .u8 (y.toNat : Int)) ∧ w.cell? ⟨B2, o2 + k, none⟩ = some (.int .u8 (u.toNat : Int))) := And.intro g1 g2
      have HR := hide (eq_row (n := n) (lg bs) (lg vs) k (lg_of hy) (lg_of hu))
      have hvl : us.length ≤ 1000000 := by rw [hI.len]; omega
      have hsz : w.heap.size ≤ wr.drew.heap.size := hI.kp.size
      have hId : RInv w (fun i => rowL (n + 1) (eqF n (lg bs) (lg vs) i)) k (.slice A3 n3 cp3) us wr.drew := ⟨hI.own, hI.len, hI.row, hI.kp.drew⟩
      have zd : wr.drew.cell? ⟨B1, o1 + k, none⟩ = some (.int .u8 (y.toNat : Int)) ∧ wr.drew.cell? ⟨B2, o2 + k, none⟩ = some (.int .u8 (u.toNat : Int)) := by rw [(Sm.drew wr).cell, (Sm.drew wr).cell]; exact ⟨x1, x2⟩
      clear hy hu x1 x2 g1 g2 hI
      go_wp2_with fail
      refine wp_region_noPanic ?_
      refine wp_region_held_drew (S := fun w' => w'.cell? ⟨B1, o1 + k, none⟩ = some (.int .u8 (y.toNat : Int)) ∧ w'.cell? ⟨B2, o2 + k, none⟩ = some (.int .u8 (u.toNat : Int))) (by kernel_rfl) (zd) (fun hHeld => ?_)
      generalize hgen : wr.drew = wd at *
      clear hgen
      refine wpAnyH_take (i := 0) (v := ?vtx1) (oi := ?otx1) ?htx1 (by kernel_rfl) (by kernel_rfl) (by kernel_rfl) (fun _ _ _ h => h) (Or.inl ⟨?wtx1, ?ytx1⟩) hHeld ?rtx1
      case htx1 => simp only [List.getElem?_toArray, List.getElem?_cons_zero, List.getElem?_cons_succ]; rfl
      case wtx1 => rfl
      case ytx1 => intro w hSw; (try dsimp only at hSw); go_simp; (try with_reducible rfl)
      simp only [Act.put, List.setIfInBounds_toArray, List.set_cons_zero, List.set_cons_succ]
      refine wpAnyH_take (i := 1) (v := ?vtx2) (oi := ?otx2) ?htx2 (by kernel_rfl) (by kernel_rfl) (by kernel_rfl) (fun _ _ _ h => h) (Or.inl ⟨?wtx2, ?ytx2⟩) hHeld ?rtx2
      case htx2 => simp only [List.getElem?_toArray, List.getElem?_cons_zero, List.getElem?_cons_succ]; rfl
      case wtx2 => rfl
      case ytx2 => intro w hSw; (try dsimp only at hSw); go_simp; (try with_reducible rfl)
      simp only [Act.put, List.setIfInBounds_toArray, List.set_cons_zero, List.set_cons_succ]
      refine wpAnyH_take (i := 2) (v := ?vtx3) (oi := ?otx3) ?htx3 (by kernel_rfl) (by kernel_rfl) (by kernel_rfl) (fun _ _ _ h => h) (Or.inl ⟨?wtx3, ?ytx3⟩) hHeld ?rtx3
      case htx3 => simp only [List.getElem?_toArray, List.getElem?_cons_zero, List.getElem?_cons_succ]; rfl
      case wtx3 => rfl
      case ytx3 => intro w hSw; (try dsimp only at hSw); go_simp; (try with_reducible rfl)
      simp only [Act.put, List.setIfInBounds_toArray, List.set_cons_zero, List.set_cons_succ]
      refine wpAnyH_take (i := 3) (v := ?vtx4) (oi := ?otx4) ?htx4 (by kernel_rfl) (by kernel_rfl) (by kernel_rfl) (fun _ _ _ h => h) (Or.inl ⟨?wtx4, ?ytx4⟩) hHeld ?rtx4
      case htx4 => simp only [List.getElem?_toArray, List.getElem?_cons_zero, List.getElem?_cons_succ]; rfl
      case wtx4 => rfl
      case ytx4 => intro w hSw; (try dsimp only at hSw); go_simp; (try with_reducible rfl)
      simp only [Act.put, List.setIfInBounds_toArray, List.set_cons_zero, List.set_cons_succ]
      refine wpAnyH_take (i := 4) (v := ?vtx5) (oi := ?otx5) ?htx5 (by kernel_rfl) (by kernel_rfl) (by kernel_rfl) (fun _ _ _ h => h) (Or.inl ⟨?wtx5, ?ytx5⟩) hHeld ?rtx5
      case htx5 => simp only [List.getElem?_toArray, List.getElem?_cons_zero, List.getElem?_cons_succ]; rfl
      case wtx5 => rfl
      case ytx5 => intro w hSw; (try dsimp only at hSw); go_simp; (try with_reducible rfl)
      simp only [Act.put, List.setIfInBounds_toArray, List.set_cons_zero, List.set_cons_succ]
      refine wpAnyH_take (i := 5) (v := ?vtx6) (oi := ?otx6) ?htx6 (by kernel_rfl) (by kernel_rfl) (by kernel_rfl) (fun _ _ _ h => h) (Or.inl ⟨?wtx6, ?ytx6⟩) hHeld ?rtx6
      case htx6 => simp only [List.getElem?_toArray, List.getElem?_cons_zero, List.getElem?_cons_succ]; rfl
      case wtx6 => rfl
      case ytx6 => intro w hSw; (try dsimp only at hSw); go_simp; (try with_reducible rfl)
      simp only [Act.put, List.setIfInBounds_toArray, List.set_cons_zero, List.set_cons_succ]
      refine wpAnyH_take (i := 6) (v := ?vtx7) (oi := ?otx7) ?htx7 (by kernel_rfl) (by kernel_rfl) (by kernel_rfl) (fun _ _ _ h => h) (Or.inl ⟨?wtx7, ?ytx7⟩) hHeld ?rtx7
      case htx7 => simp only [List.getElem?_toArray, List.getElem?_cons_zero, List.getElem?_cons_succ]; rfl
      case wtx7 => rfl
      case ytx7 => intro w hSw; (try dsimp only at hSw); go_simp; (try with_reducible rfl)
      simp only [Act.put, List.setIfInBounds_toArray, List.set_cons_zero, List.set_cons_succ]
      refine wpAnyH_take (i := 8) (v := ?vtx8) (oi := ?otx8) ?htx8 (by kernel_rfl) (by kernel_rfl) (by kernel_rfl) (fun _ _ _ h => h) (Or.inl ⟨?wtx8, ?ytx8⟩) hHeld ?rtx8
      case htx8 => simp only [List.getElem?_toArray, List.getElem?_cons_zero, List.getElem?_cons_succ]; rfl
      case wtx8 => rfl
      case ytx8 => intro w hSw; (try dsimp only at hSw); go_simp; (try with_reducible rfl)
      simp only [Act.put, List.setIfInBounds_toArray, List.set_cons_zero, List.set_cons_succ]
      refine wpAnyH_take (i := 9) (v := ?vtx9) (oi := ?otx9) ?htx9 (by kernel_rfl) (by kernel_rfl) (by kernel_rfl) (fun _ _ _ h => h) (Or.inl ⟨?wtx9, ?ytx9⟩) hHeld ?rtx9
      case htx9 => simp only [List.getElem?_toArray, List.getElem?_cons_zero, List.getElem?_cons_succ]; rfl
      case wtx9 => rfl
      case ytx9 => intro w hSw; (try dsimp only at hSw); go_simp; (try with_reducible rfl)
      simp only [Act.put, List.setIfInBounds_toArray, List.set_cons_zero, List.set_cons_succ]
      refine wpAnyH_take (i := 10) (v := ?vtx10) (oi := ?otx10) ?htx10 (by kernel_rfl) (by kernel_rfl) (by kernel_rfl) (fun _ _ _ h => h) (Or.inl ⟨?wtx10, ?ytx10⟩) hHeld ?rtx10
      case htx10 => simp only [List.getElem?_toArray, List.getElem?_cons_zero, List.getElem?_cons_succ]; rfl
      case wtx10 => rfl
      case ytx10 => intro w hSw; (try dsimp only at hSw); go_simp; (try with_reducible rfl)
      simp only [Act.put, List.setIfInBounds_toArray, List.set_cons_zero, List.set_cons_succ]
      refine wpAnyH_take (i := 11) (v := ?vtx11) (oi := ?otx11) ?htx11 (by kernel_rfl) (by kernel_rfl) (by kernel_rfl) (fun _ _ _ h => h) (Or.inl ⟨?wtx11, ?ytx11⟩) hHeld ?rtx11
      case htx11 => simp only [List.getElem?_toArray, List.getElem?_cons_zero, List.getElem?_cons_succ]; rfl
      case wtx11 => rfl
      case ytx11 => intro w hSw; (try dsimp only at hSw); go_simp; (try with_reducible rfl)
      simp only [Act.put, List.setIfInBounds_toArray, List.set_cons_zero, List.set_cons_succ]
      refine wpAnyH_ready (rs := [7, 12]) (by kernel_rfl) (by simp) ?_
      refine (AllReadyH.cons (o := ?otx13) ?htx13 (fun K hK => ?stx13) (AllReadyH.cons (o := ?otx14) ?htx14 (fun K hK => ?stx14) AllReadyH.nil))
      case htx13 => simp only [List.getElem?_toArray, List.getElem?_cons_zero, List.getElem?_cons_succ]; rfl
      case htx14 => simp only [List.getElem?_toArray, List.getElem?_cons_zero, List.getElem?_cons_succ]; rfl
      case stx13 =>
        go_simp
        refine (rrow_any y n _ hn3).mono ?_
        rintro e w2 ⟨A2, m2, c2, rfl, r2, k2⟩
        have z2 := And.intro (k2.cell zd.1 fun f => f) (k2.cell zd.2 fun f => f)
        go_wp2_with fail
        refine hK.out _ _ (z2) (fun hHeld => ?_)
        clear hK K
        try simp only [Act.put, List.setIfInBounds_toArray, List.set_cons_zero, List.set_cons_succ]
        refine wpAnyH_ready (rs := [12]) (by kernel_rfl) (by simp) ?_
        refine AllReadyH.cons (o := ?otx15) ?htx15 (fun K hK => ?stx15) AllReadyH.nil
        case htx15 => simp only [List.getElem?_toArray, List.getElem?_cons_zero, List.getElem?_cons_succ]; rfl
        go_simp
        refine hK.out _ _ (⟨(Kp.alloc No _ _).cell z2.1 fun f => f, (Kp.alloc No _ _).cell z2.2 fun f => f⟩) (fun hHeld => ?_)
        clear hK K
        try simp only [Act.put, List.setIfInBounds_toArray, List.set_cons_zero, List.set_cons_succ]
        refine wpAnyH_ready (rs := [13]) (by kernel_rfl) (by simp) ?_
        refine AllReadyH.cons (o := ?otx16) ?htx16 (fun K hK => ?stx16) AllReadyH.nil
        case htx16 => simp only [List.getElem?_toArray, List.getElem?_cons_zero, List.getElem?_cons_succ]; rfl
        have r4 := r2.alloc (.cells #[bv u] 5)
        have b4 := bts_new w2 u _ rfl
        have k4 : Kp No wd (w2.alloc (.cells #[bv u] 5)) := k2.trans' (Kp.alloc No _ _)
        refine step_app rfl (.tmp 23) (.tmp 28) _ rfl i0 Try.underlying22 hi0 hz0 hz1 hz2 rfl r4 rfl b4 ?l13A ?b13A ?_
        case l13A => rw [rowL_len]; simp; omega
        case b13A => exact k4.size
        intro A5 n5 c5 w5 ha5
        have k5 : Kp No wd w5 := k4.trans (ha5.kp.mono fun q hq => .inr (by have := r4.ge q hq; simp at this ⊢; omega))
        have z5 := And.intro (k5.cell zd.1 fun f => f) (k5.cell zd.2 fun f => f)
        refine hK.out _ _ (z5) (fun hHeld => ?_)
        clear hK K
        try simp only [Act.put, List.setIfInBounds_toArray, List.set_cons_zero, List.set_cons_succ]
        refine wpAnyH_ready (rs := [14]) (by kernel_rfl) (by simp) ?_
        refine AllReadyH.cons (o := ?otx17) ?htx17 (fun K hK => ?stx17) AllReadyH.nil
        case htx17 => simp only [List.getElem?_toArray, List.getElem?_cons_zero, List.getElem?_cons_succ]; rfl
        go_simp
        refine hK.out _ _ (⟨(Kp.alloc No _ _).cell z5.1 fun f => f, (Kp.alloc No _ _).cell z5.2 fun f => f⟩) (fun hHeld => ?_)
        clear hK K
        try simp only [Act.put, List.setIfInBounds_toArray, List.set_cons_zero, List.set_cons_succ]
        refine wpAnyH_ready (rs := [15]) (by kernel_rfl) (by simp) ?_
        refine AllReadyH.cons (o := ?otx18) ?htx18 (fun K hK => ?stx18) AllReadyH.nil
        case htx18 => simp only [List.getElem?_toArray, List.getElem?_cons_zero, List.getElem?_cons_succ]; rfl
        refine step_appV rfl (.tmp 16) (.tmp 30) _ rfl Try.underlying48 rfl ((hId.own.no k5).no (Kp.alloc No _ (.cells #[.slice A5 n5 c5] 22))) _ rfl (fresh_cell _ _ _) rfl rfl hvl ?b15A ?_
        case b15A => have := k5.size; simp; omega
        intro A6 n6 c6 w6 ha6
        have k6 : Kp No w w6 := ha6.keeps ((hId.own.no k5).no (Kp.alloc No _ _)) ((hId.kp.trans' k5).trans' (Kp.alloc No _ _))
        have k6d : w6.cell? ⟨B1, o1 + k, none⟩ = some (.int .u8 (y.toNat : Int)) ∧ w6.cell? ⟨B2, o2 + k, none⟩ = some (.int .u8 (u.toNat : Int)) := ⟨k6.cell z0.out.1 fun f => f, k6.cell z0.out.2 fun f => f⟩
        have hu5 : Own w5 wd.heap.size 5 (.slice A5 n5 c5) (rowL (n + 1) (eqF n (lg bs) (lg vs) k)) := by rw [← HR.out]; exact ha5.own.rebase fun q hq => Nat.le_trans (Nat.le_refl _) (ha5.own.ge q hq)
        have HN := hide (hId.step k5 hu5 hsz ha6)
        refine hK.out _ _ (k6d) (fun hHeld => ?_)
        clear hK K
        try simp only [Act.put, List.setIfInBounds_toArray, List.set_cons_zero, List.set_cons_succ]
        refine wpAnyH_take (i := 16) (v := ?vtx19) (oi := ?otx19) ?htx19 (by kernel_rfl) (by kernel_rfl) (by kernel_rfl) (fun _ _ _ h => h) (Or.inl ⟨?wtx19, ?ytx19⟩) hHeld ?rtx19
        case htx19 => simp only [List.getElem?_toArray, List.getElem?_cons_zero, List.getElem?_cons_succ]; rfl
        case wtx19 => rfl
        case ytx19 => intro w hSw; (try dsimp only at hSw); go_simp; (try with_reducible rfl)
        simp only [Act.put, List.setIfInBounds_toArray, List.set_cons_zero, List.set_cons_succ]
        refine wpAnyH_done (by kernel_rfl) ?_ _
        refine NoPanic.normal ?_
        go_wp2_with fail
        go_round
        case rel => exact ⟨k + 1, A6, n6, c6, _, by omega, by go_num, rfl, HN.out⟩
        case measure => simp [intOf]; omega
      case stx14 =>
        go_simp
        refine hK.out _ _ (⟨(Kp.alloc No _ _).cell zd.1 fun f => f, (Kp.alloc No _ _).cell zd.2 fun f => f⟩) (fun hHeld => ?_)
        clear hK K
        try simp only [Act.put, List.setIfInBounds_toArray, List.set_cons_zero, List.set_cons_succ]
        refine wpAnyH_ready (rs := [7]) (by kernel_rfl) (by simp) ?_
        refine AllReadyH.cons (o := ?otx21) ?htx21 (fun K hK => ?stx21) AllReadyH.nil
        case htx21 => simp only [List.getElem?_toArray, List.getElem?_cons_zero, List.getElem?_cons_succ]; rfl
        go_simp
        refine (rrow_any y n _ hn3).mono ?_
        rintro e w2 ⟨A2, m2, c2, rfl, r4, k2⟩
        have b4 := (bts_new wd u _ rfl).no k2
        have k4 : Kp No wd w2 := (Kp.alloc No wd (.cells #[bv u] 5)).trans' k2
        have z2 := And.intro (k4.cell zd.1 fun f => f) (k4.cell zd.2 fun f => f)
        have hbB : wd.heap.size ≤ (wd.alloc (.cells #[bv u] 5)).heap.size := by simp
        go_wp2_with fail
        refine hK.out _ _ (z2) (fun hHeld => ?_)
        clear hK K
        try simp only [Act.put, List.setIfInBounds_toArray, List.set_cons_zero, List.set_cons_succ]
        refine wpAnyH_ready (rs := [13]) (by kernel_rfl) (by simp) ?_
        refine AllReadyH.cons (o := ?otx22) ?htx22 (fun K hK => ?stx22) AllReadyH.nil
        case htx22 => simp only [List.getElem?_toArray, List.getElem?_cons_zero, List.getElem?_cons_succ]; rfl
        refine step_app rfl (.tmp 23) (.tmp 28) _ rfl i0 Try.underlying22 hi0 hz0 hz1 hz2 rfl r4 rfl b4 ?l13B ?b13B ?_
        case l13B => rw [rowL_len]; simp; omega
        case b13B => exact k2.size
        intro A5 n5 c5 w5 ha5
        have k5 : Kp No wd w5 := k4.trans (ha5.kp.mono fun q hq => .inr (by have := r4.ge q hq; simp at this ⊢; omega))
        have z5 := And.intro (k5.cell zd.1 fun f => f) (k5.cell zd.2 fun f => f)
        refine hK.out _ _ (z5) (fun hHeld => ?_)
        clear hK K
        try simp only [Act.put, List.setIfInBounds_toArray, List.set_cons_zero, List.set_cons_succ]
        refine wpAnyH_ready (rs := [14]) (by kernel_rfl) (by simp) ?_
        refine AllReadyH.cons (o := ?otx23) ?htx23 (fun K hK => ?stx23) AllReadyH.nil
        case htx23 => simp only [List.getElem?_toArray, List.getElem?_cons_zero, List.getElem?_cons_succ]; rfl
        go_simp
        refine hK.out _ _ (⟨(Kp.alloc No _ _).cell z5.1 fun f => f, (Kp.alloc No _ _).cell z5.2 fun f => f⟩) (fun hHeld => ?_)
        clear hK K
        try simp only [Act.put, List.setIfInBounds_toArray, List.set_cons_zero, List.set_cons_succ]
        refine wpAnyH_ready (rs := [15]) (by kernel_rfl) (by simp) ?_
        refine AllReadyH.cons (o := ?otx24) ?htx24 (fun K hK => ?stx24) AllReadyH.nil
        case htx24 => simp only [List.getElem?_toArray, List.getElem?_cons_zero, List.getElem?_cons_succ]; rfl
        refine step_appV rfl (.tmp 16) (.tmp 30) _ rfl Try.underlying48 rfl ((hId.own.no k5).no (Kp.alloc No _ (.cells #[.slice A5 n5 c5] 22))) _ rfl (fresh_cell _ _ _) rfl rfl hvl ?b15B ?_
        case b15B => have := k5.size; simp; omega
        intro A6 n6 c6 w6 ha6
        have k6 : Kp No w w6 := ha6.keeps ((hId.own.no k5).no (Kp.alloc No _ _)) ((hId.kp.trans' k5).trans' (Kp.alloc No _ _))
        have k6d : w6.cell? ⟨B1, o1 + k, none⟩ = some (.int .u8 (y.toNat : Int)) ∧ w6.cell? ⟨B2, o2 + k, none⟩ = some (.int .u8 (u.toNat : Int)) := ⟨k6.cell z0.out.1 fun f => f, k6.cell z0.out.2 fun f => f⟩
        have hu5 : Own w5 wd.heap.size 5 (.slice A5 n5 c5) (rowL (n + 1) (eqF n (lg bs) (lg vs) k)) := by rw [← HR.out]; exact ha5.own.rebase fun q hq => Nat.le_trans hbB (ha5.own.ge q hq)
        have HN := hide (hId.step k5 hu5 hsz ha6)
        refine hK.out _ _ (k6d) (fun hHeld => ?_)
        clear hK K
        try simp only [Act.put, List.setIfInBounds_toArray, List.set_cons_zero, List.set_cons_succ]
        refine wpAnyH_take (i := 16) (v := ?vtx25) (oi := ?otx25) ?htx25 (by kernel_rfl) (by kernel_rfl) (by kernel_rfl) (fun _ _ _ h => h) (Or.inl ⟨?wtx25, ?ytx25⟩) hHeld ?rtx25
        case htx25 => simp only [List.getElem?_toArray, List.getElem?_cons_zero, List.getElem?_cons_succ]; rfl
        case wtx25 => rfl
        case ytx25 => intro w hSw; (try dsimp only at hSw); go_simp; (try with_reducible rfl)
        simp only [Act.put, List.setIfInBounds_toArray, List.set_cons_zero, List.set_cons_succ]
        refine wpAnyH_done (by kernel_rfl) ?_ _
        refine NoPanic.normal ?_
        go_wp2_with fail
        go_round
        case rel => exact ⟨k + 1, A6, n6, c6, _, by omega, by go_num, rfl, HN.out⟩
        case measure => simp [intOf]; omega
    · obtain rfl : k = n := by omega
      have hrw : Rws wr A3 k (matL k (k + 1) (eqF k (lg bs) (lg vs))) := hI.rws (matL_len _ _ _) fun j hj => matL_get _ hj
      have hst := rsteps_wide (cp := cp3) (c := k + 1) hrw (fun j b hj => by
        have hjl : j < k := by have := (List.getElem?_eq_some_iff.1 hj).1; rwa [matL_len] at this
        rw [matL_get _ hjl] at hj
        injection hj with hj
        subst hj
        exact rowL_len _ _) n1 n2 (by omega) (by omega)
      have HS : Hid (∀ j, j < k → (redS k (fnL (matL k (k + 1) (eqF k (lg bs) (lg vs)))) (k + 1)).f j k = nF k (lg bs) (lg vs) k j) := fun j hj => steps_newton HU.out (fun i q hi hq => fnL_matL _ i q hi hq) j hj
      have hn3k : n3 = k := by rw [hI.own.len, hI.len]
      subst hn3k
      have hkw := hI.kp
      have hks := hkw.size
      clear hrw hI
      go_wp2_with fail
      refine hst.mono ?_
      rintro e w2 ⟨g, hv, cp4, rfl, hG, k2⟩
      clear hst
      generalize (redS n3 (fnL (matL n3 (n3 + 1) (eqF n3 (lg bs) (lg vs)))) (n3 + 1)).f = f at hG HS
      have hkw2 := hkw.trans' k2
      obtain ⟨L, hL⟩ : ∃ L, L = n3 + 1 := ⟨_, rfl⟩
      rw [← hL] at hG
      have hL1 : n3 < L := by omega
      clear hL
      go_wp2_with fail
      go_loopw [8, 9] (fun v i wr => ∃ (q : Nat) (A5 : Option Addr) (m5 c5 : Nat), q ≤ n3 ∧ i = .int .i64 (q : Int) ∧ v = .slice A5 m5 c5 ∧ Own wr w2.heap.size 5 (.slice A5 m5 c5) (rowL q fun j => f j n3) ∧ Kp No w2 wr) (fun _ i _ => n3 - (intOf i).toNat)
      case atStart => exact ⟨0, none, 0, 0, Nat.zero_le _, rfl, rfl, Own.nil _ _ _, Kp.refl _ _⟩
      case round =>
        obtain ⟨q, A5, m5, c5, hq, rfl, rfl, ho, hkr⟩ := hrel
        by_cases hlq : q < n3
        · obtain ⟨b, cb, e1, _, hRw, _, _⟩ := (hG.no hkr).at_ (by omega) hlq
          have y1 := (hG.no hkr).out.cell hlq
          rw [e1] at y1
          have y2 := hRw.cell hL1
          clear e1
          have hsz := hkr.size
          have hb := bts_new wr (f q n3) _ rfl
          have ho2 := ho.alloc (.cells #[bv (f q n3)] 5)
          have hl : (rowL q fun j => f j n3).length + [f q n3].length ≤ 1000000000 := by rw [rowL_len]; simp; omega
          go_wp2_with (first
            | (at_builtin
               refine wpList_app rfl (.tmp 40) (.tmp 49) _ rfl i0 Try.underlying22 hi0 hz0 hz1 hz2 rfl ho2 rfl hb hl (by simp; omega) ?_
               intro A6 n6 c6 w6 ha))
          go_round
          case rel => exact ⟨q + 1, A6, n6, c6, by omega, by go_num, rfl, by rw [rowL_succ]; exact ha.own, ha.keeps ho2 (hkr.trans' (Kp.alloc No _ _))⟩
          case measure => simp [intOf]; omega
        · obtain rfl : q = n3 := by omega
          have hk2s := hkw2.size
          have HE : Hid (rowL q (fun j => f j q) = rowL q (nF q (lg bs) (lg vs) q)) := List.map_congr_left fun j hj => HS.out j (List.mem_range.1 hj)
          go_wp2_with fail
          go_ret
          refine ⟨A5, m5, c5, rfl, ?_, hkw2.trans' hkr⟩
          rw [← HE.out]
          exact ho.rebase fun x hx => Nat.le_trans hk2s (ho.ge x hx)
end Go.Proofs.Ytllcmblkjcppnaa
