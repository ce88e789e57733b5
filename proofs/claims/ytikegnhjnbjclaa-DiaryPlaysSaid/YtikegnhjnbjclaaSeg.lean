/- The document's Open of layer 10, as a contract over memory. -/
import Derived.Test.YtikegnhjnbjclaaSef
import Derived.Test.YtikegnhjnbjclaaRg
import Derived.Deep.RegionHeld3
namespace Go.Proofs.Ytikegnhjnbjclaa
open Go.RowKit
set_option linter.unusedVariables false
set_option maxRecDepth 20000
set_option linter.unusedSimpArgs false

/-- What the document's Open returns. -/
def RoPost (w : World) (v : Value) (bs : List UInt8) (k : Nat) (ld : List UInt8) (er : Nat) (e : Ending) (w1 : World) : Prop :=
  ∃ A n c, e = .returned (.tuple #[.int .u16 (k : Int), .slice A n c, .int .i64 (er : Int)]) ∧ n ≤ c ∧ (∀ w0, Bts w0 v bs → Bts w0 (.slice A n c) ld) ∧ Kp No w w1
theorem RoPost.err {w w1 : World} {v : Value} {bs : List UInt8} {er : Nat} (hk : Kp No w w1) : RoPost w v bs 0 [] er (.returned (.tuple #[.int .u16 0, .slice none 0 0, .int .i64 (er : Int)])) w1 := ⟨none, 0, 0, rfl, Nat.le_refl _, fun _ _ => Bts.nil _, hk⟩
section
variable {w : World} {n c : Nat} {A : Option Addr} {bs : List UInt8}
theorem ro_err {v : Value} {er : Nat} {e : Ending} {w1 : World} (h : opE bs = er) (h0 : er ≠ 0) (hp : RoPost w v bs 0 [] er e w1) : RoPost w v bs (opK bs) (opL bs) (opE bs) e w1 := by
  unfold opK opL
  rw [if_neg (by omega), if_neg (by omega), h]
  exact hp
theorem ro_ok {v : Value} {e : Ending} {w1 : World} (h : opE bs = 0) (hp : RoPost w v bs (kdO bs) (ldO bs (ctO bs)) 0 e w1) : RoPost w v bs (opK bs) (opL bs) (opE bs) e w1 := by
  unfold opK opL
  rw [if_pos h, if_pos h, h]
  exact hp
theorem rop_short {w : World} {n c : Nat} {A : Option Addr} {bs : List UInt8} (h : n < 12) : Calls Try.prog 49 #[.slice A n c] w (RoPost w (.slice A n c) bs 0 [] 21) := by
  go_enter Try.func49, Try.ntmps49
  go_wp2
  exact bodyPost_ret (v := .tuple #[.int .u16 0, .slice none 0 0, .int .i64 21]) (by simp [results, Try.results49, go_sem]) rfl (RoPost.err (Kp.refl _ _))

set_option maxHeartbeats 4000000 in
theorem ropen_any (hb : Bts w (.slice A n c) bs) (hnc : n ≤ c) (hbig : n ≤ 900000000) : Calls Try.prog 49 #[.slice A n c] w (RoPost w (.slice A n c) bs (opK bs) (opL bs) (opE bs)) := by
  obtain ⟨i0, hi0, hz0, hz1, hz2⟩ := byte_parts
  have HL := hide hb.len
  by_cases h : n < 12
  · exact (rop_short h).mono fun e w1 hp => ro_err (opE_21 (by have := HL.out; omega)) (by omega) hp
  have h : 12 ≤ n := by omega
  obtain ⟨A4, s4, b4, _⟩ := slice_lu hb hnc 4 8 4 (c - 4) 4 8 rfl rfl (by omega) (by omega) rfl rfl
  obtain ⟨s1, b1, _⟩ := slice_u hb hnc 2 2 rfl (by omega)
  obtain ⟨s2, b2, _⟩ := slice_u hb hnc 8 8 rfl (by omega)
  obtain ⟨A8, s8, b8, _⟩ := slice_lu hb hnc 8 12 4 (c - 8) 8 12 rfl rfl (by omega) (by omega) rfl rfl
  obtain ⟨A2, s5, b5, _⟩ := slice_lu hb hnc 2 4 2 (c - 2) 2 4 rfl rfl (by omega) (by omega) rfl rfl
  obtain ⟨q, hq⟩ : ∃ q, q = mkO bs := ⟨_, rfl⟩
  obtain ⟨k, hk⟩ : ∃ q, q = kdO bs := ⟨_, rfl⟩
  obtain ⟨t, ht⟩ : ∃ q, q = ctO bs := ⟨_, rfl⟩
  obtain ⟨z, hz⟩ : ∃ q, q = smO bs := ⟨_, rfl⟩
  have kl : k < 65536 := hk ▸ kdO_lt bs
  have tl : t < 4294967296 := ht ▸ ctO_lt bs
  have zl : z < 4294967296 := hz ▸ smO_lt bs
  have HQ := hide hq
  have HK := hide hk
  have HT := hide ht
  have HZ := hide hz
  have B8 := hide b2
  have BZ := hide b8
  have BK := hide b5
  clear hq hk ht hz b2 b8 b5
  go_enter Try.func49, Try.ntmps49
  go_wp2_with fail
  refine (rof_any b4 (by simp; omega)).mono ?_
  rintro e w' ⟨rfl, rfl⟩
  rw [show ofB ((bs.drop 4).take 4) = t from HT.out.symm]
  go_wp2_with fail
  refine (rof_any b1 (by simp; omega)).mono ?_
  rintro e w' ⟨rfl, rfl⟩
  rw [show ofB (bs.take 2) = q from HQ.out.symm]
  clear b4 b1
  by_cases hm : q = 53021
  · have HM := hide hm
    subst hm
    by_cases ht1 : 65536 < t
    · go_wp2
      exact bodyPost_ret (v := .tuple #[.int .u16 0, .slice none 0 0, .int .i64 21]) (by simp [results, Try.results49, go_sem]) rfl (ro_err (opE_21 (by have := HT.out; have := HL.out; have := HQ.out; omega)) (by omega) (RoPost.err (Kp.refl _ _)))
    have ht1 : t ≤ 65536 := by omega
    by_cases ht2 : n - 12 < t
    · have ht3 : (n : Int) - 12 < t := by omega
      go_wp2
      exact bodyPost_ret (v := .tuple #[.int .u16 0, .slice none 0 0, .int .i64 21]) (by simp [results, Try.results49, go_sem]) rfl (ro_err (opE_21 (by have := HT.out; have := HL.out; have := HQ.out; omega)) (by omega) (RoPost.err (Kp.refl _ _)))
    have ht2 : 12 + t ≤ n := by omega
    have ht3 : ¬ ((n : Int) - 12 < t) := by omega
    obtain ⟨A3, s3, ball, c3⟩ := slice_lu_all n c A hnc 12 (12 + t) t (c - 12) 12 (12 + (t : Int)) rfl (by omega) (by omega) ht2 (by omega) rfl
    have BALL := hide ball
    have BL := hide (ball w bs hb)
    obtain ⟨y, hy⟩ : ∃ y, y = csO bs t := ⟨_, rfl⟩
    have yl : y < 4294967296 := hy ▸ csO_lt bs t
    have HY := hide hy
    clear hy ball
    have hw : IntKind.u32.wrap (z : Int) = z := IntWalk.u32_in _ (by omega)
    by_cases hzy : z = y
    · have HZY := hide hzy
      subst hzy
      go_wp2_with fail
      refine wp_region_noPanic ?_
      refine wp_region_held_drew (S := fun w' => Kp No w w') (by kernel_rfl) ((Kp.refl No w).drew) (fun hHeld => ?_)
      refine wpAnyH_take (i := 1) (v := ?vgx1) (oi := ?ogx1) ?hgx1 (by kernel_rfl) (by kernel_rfl) (by kernel_rfl) (fun _ _ _ h => h) (Or.inl ⟨?wgx1, ?ygx1⟩) hHeld ?rgx1
      case hgx1 => simp only [List.getElem?_toArray, List.getElem?_cons_zero, List.getElem?_cons_succ]; rfl
      case wgx1 => rfl
      case ygx1 => intro w hSw; (try dsimp only at hSw); go_simp; (try with_reducible rfl)
      simp only [Act.put, List.setIfInBounds_toArray, List.set_cons_zero, List.set_cons_succ]
      refine wpAnyH_take (i := 2) (v := ?vgx2) (oi := ?ogx2) ?hgx2 (by kernel_rfl) (by kernel_rfl) (by kernel_rfl) (fun _ _ _ h => h) (Or.inl ⟨?wgx2, ?ygx2⟩) hHeld ?rgx2
      case hgx2 => simp only [List.getElem?_toArray, List.getElem?_cons_zero, List.getElem?_cons_succ]; rfl
      case wgx2 => rfl
      case ygx2 => intro w hSw; (try dsimp only at hSw); go_simp; (try with_reducible rfl)
      simp only [Act.put, List.setIfInBounds_toArray, List.set_cons_zero, List.set_cons_succ]
      refine wpAnyH_take (i := 4) (v := ?vgx3) (oi := ?ogx3) ?hgx3 (by kernel_rfl) (by kernel_rfl) (by kernel_rfl) (fun _ _ _ h => h) (Or.inl ⟨?wgx3, ?ygx3⟩) hHeld ?rgx3
      case hgx3 => simp only [List.getElem?_toArray, List.getElem?_cons_zero, List.getElem?_cons_succ]; rfl
      case wgx3 => rfl
      case ygx3 => intro w hSw; (try dsimp only at hSw); go_simp; (try with_reducible rfl)
      simp only [Act.put, List.setIfInBounds_toArray, List.set_cons_zero, List.set_cons_succ]
      refine wpAnyH_take (i := 7) (v := ?vgx4) (oi := ?ogx4) ?hgx4 (by kernel_rfl) (by kernel_rfl) (by kernel_rfl) (fun _ _ _ h => h) (Or.inl ⟨?wgx4, ?ygx4⟩) hHeld ?rgx4
      case hgx4 => simp only [List.getElem?_toArray, List.getElem?_cons_zero, List.getElem?_cons_succ]; rfl
      case wgx4 => rfl
      case ygx4 => intro w hSw; (try dsimp only at hSw); go_simp; (try with_reducible rfl)
      simp only [Act.put, List.setIfInBounds_toArray, List.set_cons_zero, List.set_cons_succ]
      refine wpAnyH_take (i := 8) (v := ?vgx5) (oi := ?ogx5) ?hgx5 (by kernel_rfl) (by kernel_rfl) (by kernel_rfl) (fun _ _ _ h => h) (Or.inl ⟨?wgx5, ?ygx5⟩) hHeld ?rgx5
      case hgx5 => simp only [List.getElem?_toArray, List.getElem?_cons_zero, List.getElem?_cons_succ]; rfl
      case wgx5 => rfl
      case ygx5 => intro w hSw; (try dsimp only at hSw); go_simp; (try with_reducible rfl)
      simp only [Act.put, List.setIfInBounds_toArray, List.set_cons_zero, List.set_cons_succ]
      refine wpAnyH_ready (rs := [0]) (by kernel_rfl) (by simp) ?_
      refine AllReadyH.cons (o := ?ogx6) ?hgx6 (fun K hK => ?sgx6) AllReadyH.nil
      case hgx6 => simp only [List.getElem?_toArray, List.getElem?_cons_zero, List.getElem?_cons_succ]; rfl
      go_simp
      refine hK.out _ _ (hHeld.trans' (Kp.alloc No _ _)) (fun hHeld => ?_)
      clear hK K
      try simp only [Act.put, List.setIfInBounds_toArray, List.set_cons_zero, List.set_cons_succ]
      refine wpAnyH_ready (rs := [3]) (by kernel_rfl) (by simp) ?_
      refine AllReadyH.cons (o := ?ogx7) ?hgx7 (fun K hK => ?sgx7) AllReadyH.nil
      case hgx7 => simp only [List.getElem?_toArray, List.getElem?_cons_zero, List.getElem?_cons_succ]; rfl
      have o3 := own_empty w.drew
      refine step_app rfl (.tmp 34) (.tmp 36) _ rfl i0 Try.underlying22 hi0 hz0 hz1 hz2 rfl o3 rfl (B8.out.no hHeld) ?l3 ?b3 ?_
      case l3 => simp; omega
      case b3 => simp
      intro A5 n5 c5 w5 ha5
      have k5 : Kp No w.drew w5 := ha5.keeps o3 (Kp.alloc No _ _)
      refine hK.out _ _ ((Kp.refl No w).drew.trans' k5) (fun hHeld => ?_)
      clear hK K
      try simp only [Act.put, List.setIfInBounds_toArray, List.set_cons_zero, List.set_cons_succ]
      refine wpAnyH_ready (rs := [5]) (by kernel_rfl) (by simp) ?_
      refine AllReadyH.cons (o := ?ogx8) ?hgx8 (fun K hK => ?sgx8) AllReadyH.nil
      case hgx8 => simp only [List.getElem?_toArray, List.getElem?_cons_zero, List.getElem?_cons_succ]; rfl
      refine step_app rfl (.tmp 37) (.tmp 38) _ rfl i0 Try.underlying22 hi0 hz0 hz1 hz2 rfl ha5.own rfl (BL.out.no hHeld) ?l5 ?b5 ?_
      case l5 => simp; omega
      case b5 => exact k5.size
      intro A6 n6 c6 w6 ha6
      have k6 : Kp No w.drew w6 := ha6.keeps ha5.own k5
      have b6 : Bts w6 (.slice A6 n6 c6) (bs.take 8 ++ (bs.drop 12).take t) := by simpa using ha6.own.bts
      refine hK.out _ _ ((Kp.refl No w).drew.trans' k6) (fun hHeld => ?_)
      clear hK K
      try simp only [Act.put, List.setIfInBounds_toArray, List.set_cons_zero, List.set_cons_succ]
      refine wpAnyH_ready (rs := [6]) (by kernel_rfl) (by simp) ?_
      refine AllReadyH.cons (o := ?ogx9) ?hgx9 (fun K hK => ?sgx9) AllReadyH.nil
      case hgx9 => simp only [List.getElem?_toArray, List.getElem?_cons_zero, List.getElem?_cons_succ]; rfl
      go_simp
      refine (srsum_any b6 ?l6).mono ?_
      case l6 => simp; omega
      rintro e w' ⟨rfl, rfl⟩
      rw [show crc (bs.take 8 ++ (bs.drop 12).take t) = z from HY.out.symm]
      go_wp2_with fail
      refine hK.out _ _ (hHeld) (fun hHeld => ?_)
      clear hK K
      try simp only [Act.put, List.setIfInBounds_toArray, List.set_cons_zero, List.set_cons_succ]
      refine wpAnyH_ready (rs := [9]) (by kernel_rfl) (by simp) ?_
      refine AllReadyH.cons (o := ?ogx10) ?hgx10 (fun K hK => ?sgx10) AllReadyH.nil
      case hgx10 => simp only [List.getElem?_toArray, List.getElem?_cons_zero, List.getElem?_cons_succ]; rfl
      go_simp
      refine (rof_any (BZ.out.no hHeld) ?l9).mono ?_
      case l9 => simp; omega
      rintro e w' ⟨rfl, rfl⟩
      rw [show ofB ((bs.drop 8).take 4) = z from HZ.out.symm]
      go_wp2_with fail
      refine hK.out _ _ (hHeld) (fun hHeld => ?_)
      clear hK K
      try simp only [Act.put, List.setIfInBounds_toArray, List.set_cons_zero, List.set_cons_succ]
      refine wpAnyH_take (i := 10) (v := ?vgx11) (oi := ?ogx11) ?hgx11 (by kernel_rfl) (by kernel_rfl) (by kernel_rfl) (fun _ _ _ h => h) (Or.inl ⟨?wgx11, ?ygx11⟩) hHeld ?rgx11
      case hgx11 => simp only [List.getElem?_toArray, List.getElem?_cons_zero, List.getElem?_cons_succ]; rfl
      case wgx11 => rfl
      case ygx11 => intro w hSw; (try dsimp only at hSw); go_simp; (try with_reducible rfl)
      simp only [Act.put, List.setIfInBounds_toArray, List.set_cons_zero, List.set_cons_succ]
      refine wpAnyH_take (i := 11) (v := ?vgx12) (oi := ?ogx12) ?hgx12 (by kernel_rfl) (by kernel_rfl) (by kernel_rfl) (fun _ _ _ h => h) (Or.inl ⟨?wgx12, ?ygx12⟩) hHeld ?rgx12
      case hgx12 => simp only [List.getElem?_toArray, List.getElem?_cons_zero, List.getElem?_cons_succ]; rfl
      case wgx12 => rfl
      case ygx12 => intro w hSw; (try dsimp only at hSw); go_simp; (try with_reducible rfl)
      simp only [Act.put, List.setIfInBounds_toArray, List.set_cons_zero, List.set_cons_succ]
      refine wpAnyH_done (by kernel_rfl) ?_ _
      refine NoPanic.normal ?_
      clear hw
      go_wp2_with fail
      refine (rof_any (BK.out.no hHeld) ?lk).mono ?_
      case lk => simp; omega
      rintro e w' ⟨rfl, rfl⟩
      rw [show ofB ((bs.drop 2).take 2) = k from HK.out.symm]
      go_wp2
      refine bodyPost_ret (v := .tuple #[.int .u16 (k : Int), .slice A3 t (c - 12), .int .i64 0]) (by simp [results, Try.results49, go_sem]) rfl (ro_ok ?_ ⟨A3, t, c - 12, ?_, c3, ?_, hHeld⟩)
      · unfold opE
        rw [if_neg (by have := HM.out; have := HT.out; have := HL.out; have := HQ.out; omega), if_neg]
        rw [← HT.out, ← HY.out, ← HZ.out]; simp
      · rw [← HK.out]; rfl
      · rw [← HT.out]; exact fun w0 h0 => BALL.out w0 bs h0
    · have hne : ((y : Int) != (z : Int)) = true := by simp; omega
      go_wp2_with fail
      refine wp_region_noPanic ?_
      refine wp_region_held_drew (S := fun w' => Kp No w w') (by kernel_rfl) ((Kp.refl No w).drew) (fun hHeld => ?_)
      refine wpAnyH_take (i := 1) (v := ?vhx1) (oi := ?ohx1) ?hhx1 (by kernel_rfl) (by kernel_rfl) (by kernel_rfl) (fun _ _ _ h => h) (Or.inl ⟨?whx1, ?yhx1⟩) hHeld ?rhx1
      case hhx1 => simp only [List.getElem?_toArray, List.getElem?_cons_zero, List.getElem?_cons_succ]; rfl
      case whx1 => rfl
      case yhx1 => intro w hSw; (try dsimp only at hSw); go_simp; (try with_reducible rfl)
      simp only [Act.put, List.setIfInBounds_toArray, List.set_cons_zero, List.set_cons_succ]
      refine wpAnyH_take (i := 2) (v := ?vhx2) (oi := ?ohx2) ?hhx2 (by kernel_rfl) (by kernel_rfl) (by kernel_rfl) (fun _ _ _ h => h) (Or.inl ⟨?whx2, ?yhx2⟩) hHeld ?rhx2
      case hhx2 => simp only [List.getElem?_toArray, List.getElem?_cons_zero, List.getElem?_cons_succ]; rfl
      case whx2 => rfl
      case yhx2 => intro w hSw; (try dsimp only at hSw); go_simp; (try with_reducible rfl)
      simp only [Act.put, List.setIfInBounds_toArray, List.set_cons_zero, List.set_cons_succ]
      refine wpAnyH_take (i := 4) (v := ?vhx3) (oi := ?ohx3) ?hhx3 (by kernel_rfl) (by kernel_rfl) (by kernel_rfl) (fun _ _ _ h => h) (Or.inl ⟨?whx3, ?yhx3⟩) hHeld ?rhx3
      case hhx3 => simp only [List.getElem?_toArray, List.getElem?_cons_zero, List.getElem?_cons_succ]; rfl
      case whx3 => rfl
      case yhx3 => intro w hSw; (try dsimp only at hSw); go_simp; (try with_reducible rfl)
      simp only [Act.put, List.setIfInBounds_toArray, List.set_cons_zero, List.set_cons_succ]
      refine wpAnyH_take (i := 7) (v := ?vhx4) (oi := ?ohx4) ?hhx4 (by kernel_rfl) (by kernel_rfl) (by kernel_rfl) (fun _ _ _ h => h) (Or.inl ⟨?whx4, ?yhx4⟩) hHeld ?rhx4
      case hhx4 => simp only [List.getElem?_toArray, List.getElem?_cons_zero, List.getElem?_cons_succ]; rfl
      case whx4 => rfl
      case yhx4 => intro w hSw; (try dsimp only at hSw); go_simp; (try with_reducible rfl)
      simp only [Act.put, List.setIfInBounds_toArray, List.set_cons_zero, List.set_cons_succ]
      refine wpAnyH_take (i := 8) (v := ?vhx5) (oi := ?ohx5) ?hhx5 (by kernel_rfl) (by kernel_rfl) (by kernel_rfl) (fun _ _ _ h => h) (Or.inl ⟨?whx5, ?yhx5⟩) hHeld ?rhx5
      case hhx5 => simp only [List.getElem?_toArray, List.getElem?_cons_zero, List.getElem?_cons_succ]; rfl
      case whx5 => rfl
      case yhx5 => intro w hSw; (try dsimp only at hSw); go_simp; (try with_reducible rfl)
      simp only [Act.put, List.setIfInBounds_toArray, List.set_cons_zero, List.set_cons_succ]
      refine wpAnyH_ready (rs := [0]) (by kernel_rfl) (by simp) ?_
      refine AllReadyH.cons (o := ?ohx6) ?hhx6 (fun K hK => ?shx6) AllReadyH.nil
      case hhx6 => simp only [List.getElem?_toArray, List.getElem?_cons_zero, List.getElem?_cons_succ]; rfl
      go_simp
      refine hK.out _ _ (hHeld.trans' (Kp.alloc No _ _)) (fun hHeld => ?_)
      clear hK K
      try simp only [Act.put, List.setIfInBounds_toArray, List.set_cons_zero, List.set_cons_succ]
      refine wpAnyH_ready (rs := [3]) (by kernel_rfl) (by simp) ?_
      refine AllReadyH.cons (o := ?ohx7) ?hhx7 (fun K hK => ?shx7) AllReadyH.nil
      case hhx7 => simp only [List.getElem?_toArray, List.getElem?_cons_zero, List.getElem?_cons_succ]; rfl
      have o3 := own_empty w.drew
      refine step_app rfl (.tmp 34) (.tmp 36) _ rfl i0 Try.underlying22 hi0 hz0 hz1 hz2 rfl o3 rfl (B8.out.no hHeld) ?l3 ?b3 ?_
      case l3 => simp; omega
      case b3 => simp
      intro A5 n5 c5 w5 ha5
      have k5 : Kp No w.drew w5 := ha5.keeps o3 (Kp.alloc No _ _)
      refine hK.out _ _ ((Kp.refl No w).drew.trans' k5) (fun hHeld => ?_)
      clear hK K
      try simp only [Act.put, List.setIfInBounds_toArray, List.set_cons_zero, List.set_cons_succ]
      refine wpAnyH_ready (rs := [5]) (by kernel_rfl) (by simp) ?_
      refine AllReadyH.cons (o := ?ohx8) ?hhx8 (fun K hK => ?shx8) AllReadyH.nil
      case hhx8 => simp only [List.getElem?_toArray, List.getElem?_cons_zero, List.getElem?_cons_succ]; rfl
      refine step_app rfl (.tmp 37) (.tmp 38) _ rfl i0 Try.underlying22 hi0 hz0 hz1 hz2 rfl ha5.own rfl (BL.out.no hHeld) ?l5 ?b5 ?_
      case l5 => simp; omega
      case b5 => exact k5.size
      intro A6 n6 c6 w6 ha6
      have k6 : Kp No w.drew w6 := ha6.keeps ha5.own k5
      have b6 : Bts w6 (.slice A6 n6 c6) (bs.take 8 ++ (bs.drop 12).take t) := by simpa using ha6.own.bts
      refine hK.out _ _ ((Kp.refl No w).drew.trans' k6) (fun hHeld => ?_)
      clear hK K
      try simp only [Act.put, List.setIfInBounds_toArray, List.set_cons_zero, List.set_cons_succ]
      refine wpAnyH_ready (rs := [6]) (by kernel_rfl) (by simp) ?_
      refine AllReadyH.cons (o := ?ohx9) ?hhx9 (fun K hK => ?shx9) AllReadyH.nil
      case hhx9 => simp only [List.getElem?_toArray, List.getElem?_cons_zero, List.getElem?_cons_succ]; rfl
      go_simp
      refine (srsum_any b6 ?l6).mono ?_
      case l6 => simp; omega
      rintro e w' ⟨rfl, rfl⟩
      rw [show crc (bs.take 8 ++ (bs.drop 12).take t) = y from HY.out.symm]
      go_wp2_with fail
      refine hK.out _ _ (hHeld) (fun hHeld => ?_)
      clear hK K
      try simp only [Act.put, List.setIfInBounds_toArray, List.set_cons_zero, List.set_cons_succ]
      refine wpAnyH_ready (rs := [9]) (by kernel_rfl) (by simp) ?_
      refine AllReadyH.cons (o := ?ohx10) ?hhx10 (fun K hK => ?shx10) AllReadyH.nil
      case hhx10 => simp only [List.getElem?_toArray, List.getElem?_cons_zero, List.getElem?_cons_succ]; rfl
      go_simp
      refine (rof_any (BZ.out.no hHeld) ?l9).mono ?_
      case l9 => simp; omega
      rintro e w' ⟨rfl, rfl⟩
      rw [show ofB ((bs.drop 8).take 4) = z from HZ.out.symm]
      go_wp2_with fail
      refine hK.out _ _ (hHeld) (fun hHeld => ?_)
      clear hK K
      try simp only [Act.put, List.setIfInBounds_toArray, List.set_cons_zero, List.set_cons_succ]
      refine wpAnyH_take (i := 10) (v := ?vhx11) (oi := ?ohx11) ?hhx11 (by kernel_rfl) (by kernel_rfl) (by kernel_rfl) (fun _ _ _ h => h) (Or.inl ⟨?whx11, ?yhx11⟩) hHeld ?rhx11
      case hhx11 => simp only [List.getElem?_toArray, List.getElem?_cons_zero, List.getElem?_cons_succ]; rfl
      case whx11 => rfl
      case yhx11 => intro w hSw; (try dsimp only at hSw); go_simp; (try with_reducible rfl)
      simp only [Act.put, List.setIfInBounds_toArray, List.set_cons_zero, List.set_cons_succ]
      refine wpAnyH_take (i := 11) (v := ?vhx12) (oi := ?ohx12) ?hhx12 (by kernel_rfl) (by kernel_rfl) (by kernel_rfl) (fun _ _ _ h => h) (Or.inl ⟨?whx12, ?yhx12⟩) hHeld ?rhx12
      case hhx12 => simp only [List.getElem?_toArray, List.getElem?_cons_zero, List.getElem?_cons_succ]; rfl
      case whx12 => rfl
      case yhx12 => intro w hSw; (try dsimp only at hSw); go_simp; (try with_reducible rfl)
      simp only [Act.put, List.setIfInBounds_toArray, List.set_cons_zero, List.set_cons_succ]
      refine wpAnyH_done (by kernel_rfl) ?_ _
      refine NoPanic.normal ?_
      clear hw hne
      go_wp2
      refine bodyPost_ret (v := .tuple #[.int .u16 0, .slice none 0 0, .int .i64 22]) (by simp [results, Try.results49, go_sem]) rfl (ro_err (er := 22) ?_ (by omega) (RoPost.err hHeld))
      unfold opE
      rw [if_neg (by have := HM.out; have := HT.out; have := HL.out; have := HQ.out; omega), if_pos]
      rw [← HT.out, ← HY.out, ← HZ.out]; exact hzy
  · have hm2 : ((q : Int) != 53021) = true := by simp; omega
    go_wp2
    exact bodyPost_ret (v := .tuple #[.int .u16 0, .slice none 0 0, .int .i64 21]) (by simp [results, Try.results49, go_sem]) rfl (ro_err (opE_21 (by have := HT.out; have := HL.out; have := HQ.out; omega)) (by omega) (RoPost.err (Kp.refl _ _)))
end
end Go.Proofs.Ytikegnhjnbjclaa
