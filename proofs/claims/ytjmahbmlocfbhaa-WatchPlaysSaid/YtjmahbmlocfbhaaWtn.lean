/- The document's next: the epoch as it must be behind another watch. No condition. -/
import Derived.Test.YtjmahbmlocfbhaaWtf
namespace Go.Proofs.Ytjmahbmlocfbhaa
open Go.RowKit
set_option linter.unusedVariables false
set_option maxRecDepth 20000
set_option linter.unusedSimpArgs false

section
variable {w : World} {B gb c gb' c' : Nat} {T T' : Wt}
/-- What the document's calls come to. -/
def RwPost (w : World) (T : Wt) (gb c : Nat) (f : Value → Value) (e : Ending) (w1 : World) : Prop := e = .returned (f (.agg (rwC T gb c))) ∧ Kp No w w1
set_option maxHeartbeats 4000000 in
theorem rnext_any (h : RwR w B T gb c) (h' : RwR w B T' gb' c') (hl : T.hs.length = T'.hs.length) (he : T'.ep ≤ 1000000) : Calls Try.prog 21 #[.agg (rwC T gb c), .agg (rwC T' gb' c')] w (RwPost w (T.next T') gb' c' id) := by
  have K1 := Kp.alloc No w (.cells (rwC T gb c) 31)
  have K2 := Kp.alloc No (w.alloc (.cells (rwC T gb c) 31)) (.cells (rwC T' gb' c') 31)
  have K3 := Kp.alloc No ((w.alloc (.cells (rwC T gb c) 31)).alloc (.cells (rwC T' gb' c') 31)) (.cells rwZ 31)
  have e1 : (w.alloc (.cells (rwC T gb c) 31)).heap.size = w.heap.size + 1 := by simp
  have e2 : ((w.alloc (.cells (rwC T gb c) 31)).alloc (.cells (rwC T' gb' c') 31)).heap.size = w.heap.size + 1 + 1 := by simp
  have b1 := ((BxW.new w T gb c).no K2).no K3
  have b2 := (BxW.new (w.alloc (.cells (rwC T gb c) 31)) T' gb' c').no K3
  have b3 := BxY.new ((w.alloc (.cells (rwC T gb c) 31)).alloc (.cells (rwC T' gb' c') 31))
  rw [e1] at b2
  rw [e2] at b3
  have HK := hide ((K1.trans' K2).trans' K3)
  have hn2 := h'.ok.n2
  have HR := hide (h.no HK.out)
  have HR' := hide (h'.no HK.out)
  have HL := hide hl
  have HB1 := hide b1
  have HB2 := hide b2
  have HB3 := hide b3
  clear K1 K2 K3 e1 e2 b1 b2 b3 h h' hl
  unfold rwC rwZ at *
  go_enter Try.func21, Try.ntmps21
  go_wp2_with fail
  generalize ((w.alloc (.cells #[.int .i64 (T.late : Int), .int .i64 (T.gone : Int), .int .i64 (T.now : Int), .int .i64 (T.ep : Int), .slice (some ⟨gb, 0, none⟩) T.hs.length c] 31)).alloc (.cells #[.int .i64 (T'.late : Int), .int .i64 (T'.gone : Int), .int .i64 (T'.now : Int), .int .i64 (T'.ep : Int), .slice (some ⟨gb', 0, none⟩) T'.hs.length c'] 31)).alloc (.cells #[.int .i64 0, .int .i64 0, .int .i64 0, .int .i64 0, .slice none 0 0] 31) = w3 at HK HR HR' HB1 HB2 HB3 ⊢
  obtain ⟨s, hs⟩ : ∃ s, s = w.heap.size := ⟨_, rfl⟩
  rw [← hs] at HB1 HB2 HB3 ⊢
  have HSZ := hide hs
  clear hs
  go_loopw [5, 6] (fun b i wr => ∃ k : Nat, k ≤ T'.hs.length ∧ i = .int .i64 (k : Int) ∧ b = .bool (tnd T T' k) ∧ Kp No w3 wr) (fun _ i _ => T'.hs.length - (intOf i).toNat)
  case atStart => exact ⟨0, Nat.zero_le _, rfl, rfl, Kp.refl _ _⟩
  case round =>
    obtain ⟨k, hk, rfl, rfl, hkw⟩ := hrel
    have x4 := (HB2.out.no hkw).c4
    by_cases hlt : k < T'.hs.length
    · have hsc := tnd_succ T T' k
      cases hq : tnd T T' k
      · rw [hq, Bool.false_or] at hsc
        have HSC := hide hsc
        have HKW := hide hkw
        clear hsc hq hkw
        go_upto_region 5 with (fail)
        clear x4
        have xq : Hid ((((T.stN k : Nat) : Int) != ((T'.stN k : Nat) : Int)) = (T.stN k != T'.stN k)) := by
          show (!(((T.stN k : Nat) : Int) == ((T'.stN k : Nat) : Int))) = (!(T.stN k == T'.stN k))
          cases hb : T.stN k == T'.stN k
          · have := beq_eq_false_iff_ne.1 hb
            rw [beq_eq_false_iff_ne.2 (show ((T.stN k : Nat) : Int) ≠ ((T'.stN k : Nat) : Int) by omega)]
          · have := eq_of_beq hb
            rw [beq_iff_eq.2 (show ((T.stN k : Nat) : Int) = ((T'.stN k : Nat) : Int) by omega)]
        refine wp_region_noPanic ?_
        refine wp_region_held_drew (S := fun w' => BxW w' s T gb c ∧ BxW w' (s + 1) T' gb' c' ∧ Kp No w3 w') (by kernel_rfl) (⟨(HB1.out.no HKW.out).no (Kp.refl No _).drew, (HB2.out.no HKW.out).no (Kp.refl No _).drew, HKW.out.drew⟩) (fun hHeld => ?_)
        refine wpAnyH_take (i := 0) (v := ?vnfx1) (oi := ?onfx1) ?hnfx1 (by kernel_rfl) (by kernel_rfl) (by kernel_rfl) (fun _ _ _ h => h) (Or.inl ⟨?wnfx1, ?ynfx1⟩) hHeld ?rnfx1
        case hnfx1 => simp only [List.getElem?_toArray, List.getElem?_cons_zero, List.getElem?_cons_succ]; rfl
        case wnfx1 => rfl
        case ynfx1 => intro w hSw; (try dsimp only at hSw); go_simp; (try with_reducible rfl)
        simp only [Act.put, List.setIfInBounds_toArray, List.set_cons_zero, List.set_cons_succ]
        refine wpAnyH_take (i := 1) (v := ?vnfx2) (oi := ?onfx2) ?hnfx2 (by kernel_rfl) (by kernel_rfl) (by kernel_rfl) (fun _ _ _ h => h) (Or.inl ⟨?wnfx2, ?ynfx2⟩) hHeld ?rnfx2
        case hnfx2 => simp only [List.getElem?_toArray, List.getElem?_cons_zero, List.getElem?_cons_succ]; rfl
        case wnfx2 => rfl
        case ynfx2 => intro w hSw; (try dsimp only at hSw); go_simp; (try with_reducible rfl)
        simp only [Act.put, List.setIfInBounds_toArray, List.set_cons_zero, List.set_cons_succ]
        refine wpAnyH_take (i := 2) (v := ?vnfx3) (oi := ?onfx3) ?hnfx3 (by kernel_rfl) (by kernel_rfl) (by kernel_rfl) (fun _ _ _ h => h) (Or.inl ⟨?wnfx3, ?ynfx3⟩) hHeld ?rnfx3
        case hnfx3 => simp only [List.getElem?_toArray, List.getElem?_cons_zero, List.getElem?_cons_succ]; rfl
        case wnfx3 => rfl
        case ynfx3 =>
          intro w hSw
          (try dsimp only at hSw)
          have i0 := hSw.1.c0
          have i1 := hSw.1.c1
          have i2 := hSw.1.c2
          have i3 := hSw.1.c3
          have i4 := hSw.1.c4
          go_simp
          try with_reducible rfl
        simp only [Act.put, List.setIfInBounds_toArray, List.set_cons_zero, List.set_cons_succ]
        refine wpAnyH_take (i := 3) (v := ?vnfx4) (oi := ?onfx4) ?hnfx4 (by kernel_rfl) (by kernel_rfl) (by kernel_rfl) (fun _ _ _ h => h) (Or.inl ⟨?wnfx4, ?ynfx4⟩) hHeld ?rnfx4
        case hnfx4 => simp only [List.getElem?_toArray, List.getElem?_cons_zero, List.getElem?_cons_succ]; rfl
        case wnfx4 => rfl
        case ynfx4 => intro w hSw; (try dsimp only at hSw); go_simp; (try with_reducible rfl)
        simp only [Act.put, List.setIfInBounds_toArray, List.set_cons_zero, List.set_cons_succ]
        refine wpAnyH_take (i := 5) (v := ?vnfx5) (oi := ?onfx5) ?hnfx5 (by kernel_rfl) (by kernel_rfl) (by kernel_rfl) (fun _ _ _ h => h) (Or.inl ⟨?wnfx5, ?ynfx5⟩) hHeld ?rnfx5
        case hnfx5 => simp only [List.getElem?_toArray, List.getElem?_cons_zero, List.getElem?_cons_succ]; rfl
        case wnfx5 => rfl
        case ynfx5 =>
          intro w hSw
          (try dsimp only at hSw)
          have i0 := hSw.2.1.c0
          have i1 := hSw.2.1.c1
          have i2 := hSw.2.1.c2
          have i3 := hSw.2.1.c3
          have i4 := hSw.2.1.c4
          go_simp
          try with_reducible rfl
        simp only [Act.put, List.setIfInBounds_toArray, List.set_cons_zero, List.set_cons_succ]
        refine wpAnyH_take (i := 6) (v := ?vnfx6) (oi := ?onfx6) ?hnfx6 (by kernel_rfl) (by kernel_rfl) (by kernel_rfl) (fun _ _ _ h => h) (Or.inl ⟨?wnfx6, ?ynfx6⟩) hHeld ?rnfx6
        case hnfx6 => simp only [List.getElem?_toArray, List.getElem?_cons_zero, List.getElem?_cons_succ]; rfl
        case wnfx6 => rfl
        case ynfx6 => intro w hSw; (try dsimp only at hSw); go_simp; (try with_reducible rfl)
        simp only [Act.put, List.setIfInBounds_toArray, List.set_cons_zero, List.set_cons_succ]
        refine wpAnyH_ready (rs := [4]) (by kernel_rfl) (by simp) ?_
        refine AllReadyH.cons (o := ?onfx7) ?hnfx7 (fun K hK => ?snfx7) AllReadyH.nil
        case hnfx7 => simp only [List.getElem?_toArray, List.getElem?_cons_zero, List.getElem?_cons_succ]; rfl
        go_simp
        refine (rstate_any (HR.out.no hHeld.2.2) (k : Int)).mono ?_
        rintro e w9 ⟨rfl, k9⟩
        rw [T.st_nat]
        refine hK.out _ _ (⟨hHeld.1.no k9, hHeld.2.1.no k9, hHeld.2.2.trans' k9⟩) (fun hHeld => ?_)
        clear hK K
        try simp only [Act.put, List.setIfInBounds_toArray, List.set_cons_zero, List.set_cons_succ]
        refine wpAnyH_ready (rs := [7]) (by kernel_rfl) (by simp) ?_
        refine AllReadyH.cons (o := ?onfx8) ?hnfx8 (fun K hK => ?snfx8) AllReadyH.nil
        case hnfx8 => simp only [List.getElem?_toArray, List.getElem?_cons_zero, List.getElem?_cons_succ]; rfl
        go_simp
        refine (rstate_any (HR'.out.no hHeld.2.2) (k : Int)).mono ?_
        rintro e w9 ⟨rfl, k9⟩
        rw [T'.st_nat]
        refine hK.out _ _ (⟨hHeld.1.no k9, hHeld.2.1.no k9, hHeld.2.2.trans' k9⟩) (fun hHeld => ?_)
        clear hK K
        try simp only [Act.put, List.setIfInBounds_toArray, List.set_cons_zero, List.set_cons_succ]
        refine wpAnyH_take (i := 8) (v := ?vnfx9) (oi := ?onfx9) ?hnfx9 (by kernel_rfl) (by kernel_rfl) (by kernel_rfl) (fun _ _ _ h => h) (Or.inl ⟨?wnfx9, ?ynfx9⟩) hHeld ?rnfx9
        case hnfx9 => simp only [List.getElem?_toArray, List.getElem?_cons_zero, List.getElem?_cons_succ]; rfl
        case wnfx9 => rfl
        case ynfx9 => intro w hSw; (try dsimp only at hSw); go_simp; (try with_reducible rfl)
        simp only [Act.put, List.setIfInBounds_toArray, List.set_cons_zero, List.set_cons_succ]
        refine wpAnyH_take (i := 9) (v := ?vnfx10) (oi := ?onfx10) ?hnfx10 (by kernel_rfl) (by kernel_rfl) (by kernel_rfl) (fun _ _ _ h => h) (Or.inl ⟨?wnfx10, ?ynfx10⟩) hHeld ?rnfx10
        case hnfx10 => simp only [List.getElem?_toArray, List.getElem?_cons_zero, List.getElem?_cons_succ]; rfl
        case wnfx10 => rfl
        case ynfx10 => intro w hSw; (try dsimp only at hSw); go_simp; (try with_reducible rfl)
        simp only [Act.put, List.setIfInBounds_toArray, List.set_cons_zero, List.set_cons_succ]
        refine wpAnyH_take (i := 10) (v := ?vnfx11) (oi := ?onfx11) ?hnfx11 (by kernel_rfl) (by kernel_rfl) (by kernel_rfl) (fun _ _ _ h => h) (Or.inl ⟨?wnfx11, ?ynfx11⟩) hHeld ?rnfx11
        case hnfx11 => simp only [List.getElem?_toArray, List.getElem?_cons_zero, List.getElem?_cons_succ]; rfl
        case wnfx11 => rfl
        case ynfx11 => intro w hSw; (try dsimp only at hSw); go_simp; (try with_reducible rfl)
        simp only [Act.put, List.setIfInBounds_toArray, List.set_cons_zero, List.set_cons_succ]
        refine wpAnyH_done (by kernel_rfl) ?_ _
        refine NoPanic.normal ?_
        obtain ⟨-, -, hK9⟩ := hHeld
        have HK9 := hide hK9
        clear hK9
        go_wp2_with fail
        go_round
        case rel => exact ⟨k + 1, by omega, by go_num, by rw [HSC.out, ← xq.out], HK9.out⟩
        case measure => simp [intOf]; omega
      · rw [hq, Bool.true_or] at hsc
        have HSC := hide hsc
        have HKW := hide hkw
        clear hsc hq hkw
        go_upto_region 5 with (fail)
        clear x4
        refine wp_region_noPanic ?_
        refine wp_region_held_drew (S := fun w' => BxW w' s T gb c ∧ BxW w' (s + 1) T' gb' c' ∧ Kp No w3 w') (by kernel_rfl) (⟨(HB1.out.no HKW.out).no (Kp.refl No _).drew, (HB2.out.no HKW.out).no (Kp.refl No _).drew, HKW.out.drew⟩) (fun hHeld => ?_)
        refine wpAnyH_take (i := 0) (v := ?vntx1) (oi := ?ontx1) ?hntx1 (by kernel_rfl) (by kernel_rfl) (by kernel_rfl) (fun _ _ _ h => h) (Or.inl ⟨?wntx1, ?yntx1⟩) hHeld ?rntx1
        case hntx1 => simp only [List.getElem?_toArray, List.getElem?_cons_zero, List.getElem?_cons_succ]; rfl
        case wntx1 => rfl
        case yntx1 => intro w hSw; (try dsimp only at hSw); go_simp; (try with_reducible rfl)
        simp only [Act.put, List.setIfInBounds_toArray, List.set_cons_zero, List.set_cons_succ]
        refine wpAnyH_take (i := 1) (v := ?vntx2) (oi := ?ontx2) ?hntx2 (by kernel_rfl) (by kernel_rfl) (by kernel_rfl) (fun _ _ _ h => h) (Or.inl ⟨?wntx2, ?yntx2⟩) hHeld ?rntx2
        case hntx2 => simp only [List.getElem?_toArray, List.getElem?_cons_zero, List.getElem?_cons_succ]; rfl
        case wntx2 => rfl
        case yntx2 => intro w hSw; (try dsimp only at hSw); go_simp; (try with_reducible rfl)
        simp only [Act.put, List.setIfInBounds_toArray, List.set_cons_zero, List.set_cons_succ]
        refine wpAnyH_take (i := 2) (v := undef) (oi := ?ontx3) ?hntx3 (by kernel_rfl) (by kernel_rfl) (by kernel_rfl) (fun _ _ _ h => h) (Or.inr ⟨?wntx3, rfl⟩) hHeld ?rntx3
        case hntx3 => simp only [List.getElem?_toArray, List.getElem?_cons_zero, List.getElem?_cons_succ]; rfl
        case wntx3 => rfl
        simp only [Act.put, List.setIfInBounds_toArray, List.set_cons_zero, List.set_cons_succ]
        refine wpAnyH_take (i := 3) (v := undef) (oi := ?ontx4) ?hntx4 (by kernel_rfl) (by kernel_rfl) (by kernel_rfl) (fun _ _ _ h => h) (Or.inr ⟨?wntx4, rfl⟩) hHeld ?rntx4
        case hntx4 => simp only [List.getElem?_toArray, List.getElem?_cons_zero, List.getElem?_cons_succ]; rfl
        case wntx4 => rfl
        simp only [Act.put, List.setIfInBounds_toArray, List.set_cons_zero, List.set_cons_succ]
        refine wpAnyH_take (i := 4) (v := undef) (oi := ?ontx5) ?hntx5 (by kernel_rfl) (by kernel_rfl) (by kernel_rfl) (fun _ _ _ h => h) (Or.inr ⟨?wntx5, rfl⟩) hHeld ?rntx5
        case hntx5 => simp only [List.getElem?_toArray, List.getElem?_cons_zero, List.getElem?_cons_succ]; rfl
        case wntx5 => rfl
        simp only [Act.put, List.setIfInBounds_toArray, List.set_cons_zero, List.set_cons_succ]
        refine wpAnyH_take (i := 5) (v := undef) (oi := ?ontx6) ?hntx6 (by kernel_rfl) (by kernel_rfl) (by kernel_rfl) (fun _ _ _ h => h) (Or.inr ⟨?wntx6, rfl⟩) hHeld ?rntx6
        case hntx6 => simp only [List.getElem?_toArray, List.getElem?_cons_zero, List.getElem?_cons_succ]; rfl
        case wntx6 => rfl
        simp only [Act.put, List.setIfInBounds_toArray, List.set_cons_zero, List.set_cons_succ]
        refine wpAnyH_take (i := 6) (v := undef) (oi := ?ontx7) ?hntx7 (by kernel_rfl) (by kernel_rfl) (by kernel_rfl) (fun _ _ _ h => h) (Or.inr ⟨?wntx7, rfl⟩) hHeld ?rntx7
        case hntx7 => simp only [List.getElem?_toArray, List.getElem?_cons_zero, List.getElem?_cons_succ]; rfl
        case wntx7 => rfl
        simp only [Act.put, List.setIfInBounds_toArray, List.set_cons_zero, List.set_cons_succ]
        refine wpAnyH_take (i := 7) (v := undef) (oi := ?ontx8) ?hntx8 (by kernel_rfl) (by kernel_rfl) (by kernel_rfl) (fun _ _ _ h => h) (Or.inr ⟨?wntx8, rfl⟩) hHeld ?rntx8
        case hntx8 => simp only [List.getElem?_toArray, List.getElem?_cons_zero, List.getElem?_cons_succ]; rfl
        case wntx8 => rfl
        simp only [Act.put, List.setIfInBounds_toArray, List.set_cons_zero, List.set_cons_succ]
        refine wpAnyH_take (i := 8) (v := undef) (oi := ?ontx9) ?hntx9 (by kernel_rfl) (by kernel_rfl) (by kernel_rfl) (fun _ _ _ h => h) (Or.inr ⟨?wntx9, rfl⟩) hHeld ?rntx9
        case hntx9 => simp only [List.getElem?_toArray, List.getElem?_cons_zero, List.getElem?_cons_succ]; rfl
        case wntx9 => rfl
        simp only [Act.put, List.setIfInBounds_toArray, List.set_cons_zero, List.set_cons_succ]
        refine wpAnyH_take (i := 9) (v := ?vntx10) (oi := ?ontx10) ?hntx10 (by kernel_rfl) (by kernel_rfl) (by kernel_rfl) (fun _ _ _ h => h) (Or.inl ⟨?wntx10, ?yntx10⟩) hHeld ?rntx10
        case hntx10 => simp only [List.getElem?_toArray, List.getElem?_cons_zero, List.getElem?_cons_succ]; rfl
        case wntx10 => rfl
        case yntx10 => intro w hSw; (try dsimp only at hSw); go_simp; (try with_reducible rfl)
        simp only [Act.put, List.setIfInBounds_toArray, List.set_cons_zero, List.set_cons_succ]
        refine wpAnyH_take (i := 10) (v := ?vntx11) (oi := ?ontx11) ?hntx11 (by kernel_rfl) (by kernel_rfl) (by kernel_rfl) (fun _ _ _ h => h) (Or.inl ⟨?wntx11, ?yntx11⟩) hHeld ?rntx11
        case hntx11 => simp only [List.getElem?_toArray, List.getElem?_cons_zero, List.getElem?_cons_succ]; rfl
        case wntx11 => rfl
        case yntx11 => intro w hSw; (try dsimp only at hSw); go_simp; (try with_reducible rfl)
        simp only [Act.put, List.setIfInBounds_toArray, List.set_cons_zero, List.set_cons_succ]
        refine wpAnyH_done (by kernel_rfl) ?_ _
        refine NoPanic.normal ?_
        obtain ⟨-, -, hK9⟩ := hHeld
        have HK9 := hide hK9
        clear hK9
        go_wp2_with fail
        go_round
        case rel => exact ⟨k + 1, by omega, by go_num, by rw [HSC.out], HK9.out⟩
        case measure => simp [intOf]; omega
    · obtain rfl : k = T'.hs.length := by omega
      have hall : tnd T T' T'.hs.length = tnd T T' 32 := by rw [← HL.out]; exact tnd_all T T' HL.out (by rw [HL.out]; exact hn2)
      rw [hall]
      have HB2 := hide (HB2.out.no hkw)
      have HB3 := hide (HB3.out.no hkw)
      have HKW := hide (HK.out.trans' hkw)
      clear hall hkw HR HR' HB1 HK
      cases hb : tnd T T' 32
      · have e : T.next T' = T' := by unfold Wt.next; rw [hb]; rfl
        have HE := hide e
        clear e hb
        have r0 := HB2.out.c0
        have r1 := HB2.out.c1
        have r2 := HB2.out.c2
        have r3 := HB2.out.c3
        have r4 := HB2.out.c4
        have z0 := HB3.out.z0
        have z1 := HB3.out.z1
        have z2 := HB3.out.z2
        have z3 := HB3.out.z3
        have z4 := HB3.out.z4
        have g0 := HB3.out.fz 0
        have g1 := HB3.out.fz 1
        have g2 := HB3.out.fz 2
        have g3 := HB3.out.fz 3
        have g4 := HB3.out.fz 4
        go_wp2_with fail
        have hf : BxW (((((wr.setCell ⟨s + 1 + 1, 0, none⟩ (.int .i64 (T'.late : Int))).setCell ⟨s + 1 + 1, 1, none⟩ (.int .i64 (T'.gone : Int))).setCell ⟨s + 1 + 1, 2, none⟩ (.int .i64 (T'.now : Int))).setCell ⟨s + 1 + 1, 3, none⟩ (.int .i64 (T'.ep : Int))).setCell ⟨s + 1 + 1, 4, none⟩ (.slice (some ⟨gb', 0, none⟩) T'.hs.length c')) (s + 1 + 1) T' gb' c' := set5 (cs := rwZ) HB3.out T' gb' c'
        have kf := kp_set5 wr (s + 1 + 1) (.int .i64 (T'.late : Int)) (.int .i64 (T'.gone : Int)) (.int .i64 (T'.now : Int)) (.int .i64 (T'.ep : Int)) (.slice (some ⟨gb', 0, none⟩) T'.hs.length c')
        clear r0 z0 g0 r1 z1 g1 r2 z2 g2 r3 z3 g3 r4 z4 g4
        generalize (((((wr.setCell ⟨s + 1 + 1, 0, none⟩ (.int .i64 (T'.late : Int))).setCell ⟨s + 1 + 1, 1, none⟩ (.int .i64 (T'.gone : Int))).setCell ⟨s + 1 + 1, 2, none⟩ (.int .i64 (T'.now : Int))).setCell ⟨s + 1 + 1, 3, none⟩ (.int .i64 (T'.ep : Int))).setCell ⟨s + 1 + 1, 4, none⟩ (.slice (some ⟨gb', 0, none⟩) T'.hs.length c')) = w9 at hf kf ⊢
        have q0 := hf.c0
        have q1 := hf.c1
        have q2 := hf.c2
        have q3 := hf.c3
        have q4 := hf.c4
        refine bodyPost_ret (v := .agg (rwC T' gb' c')) (by simp [results, Try.results21, go_sem, rwC, q0, q1, q2, q3, q4]) rfl ?_
        exact ⟨by rw [HE.out]; rfl, HKW.out.trans (kf.mono fun q hq => .inr (by rw [hq, ← HSZ.out]; omega))⟩
      · have e : T.next T' = ⟨T'.late, T'.gone, T'.hs, T'.now, T'.ep + 1⟩ := by unfold Wt.next; rw [hb]; rfl
        have HE := hide e
        have x3 := HB2.out.c3
        have f3 := HB2.out.fz 3
        clear e hb
        go_upto_region 8 with (fail)
        clear x3 f3 x4
        have e2 : ((T'.ep : Int) + 1) = ((T'.ep + 1 : Nat) : Int) := by omega
        rw [e2]
        have k4 : Kp (fun q => q = s + 1) wr (wr.setCell ⟨s + 1, 3, none⟩ (.int .i64 ((T'.ep + 1 : Nat) : Int))) := Kp.setCell (p := ⟨s + 1, 3, none⟩) (S := fun q => q = s + 1) rfl _
        have hb2 : BxW (wr.setCell ⟨s + 1, 3, none⟩ (.int .i64 ((T'.ep + 1 : Nat) : Int))) (s + 1) ⟨T'.late, T'.gone, T'.hs, T'.now, T'.ep + 1⟩ gb' c' := HB2.out.setEp (T'.ep + 1)
        have hb3 := HB3.out.keep k4 (by show ¬ s + 1 + 1 = s + 1; omega)
        have hkw := HKW.out.trans (k4.mono fun q hq => .inr (by rw [hq, ← HSZ.out]; exact Nat.le_succ _))
        have HB2 := hide hb2
        have HB3 := hide hb3
        have HKW := hide hkw
        clear e2 k4 hb2 hb3 hkw
        generalize wr.setCell ⟨s + 1, 3, none⟩ (.int .i64 ((T'.ep + 1 : Nat) : Int)) = wr at HB2 HB3 HKW ⊢
        rw [← HE.out] at HB2
        obtain ⟨U, hU⟩ : ∃ U, U = T.next T' := ⟨_, rfl⟩
        have hUl : U.hs.length = T'.hs.length := by rw [hU]; rfl
        rw [← hU] at HB2
        clear HE
        have HE := hide hU.symm
        clear hU hUl
        have r0 := HB2.out.c0
        have r1 := HB2.out.c1
        have r2 := HB2.out.c2
        have r3 := HB2.out.c3
        have r4 := HB2.out.c4
        have z0 := HB3.out.z0
        have z1 := HB3.out.z1
        have z2 := HB3.out.z2
        have z3 := HB3.out.z3
        have z4 := HB3.out.z4
        have g0 := HB3.out.fz 0
        have g1 := HB3.out.fz 1
        have g2 := HB3.out.fz 2
        have g3 := HB3.out.fz 3
        have g4 := HB3.out.fz 4
        go_wp2_with fail
        have hf : BxW (((((wr.setCell ⟨s + 1 + 1, 0, none⟩ (.int .i64 (U.late : Int))).setCell ⟨s + 1 + 1, 1, none⟩ (.int .i64 (U.gone : Int))).setCell ⟨s + 1 + 1, 2, none⟩ (.int .i64 (U.now : Int))).setCell ⟨s + 1 + 1, 3, none⟩ (.int .i64 (U.ep : Int))).setCell ⟨s + 1 + 1, 4, none⟩ (.slice (some ⟨gb', 0, none⟩) U.hs.length c')) (s + 1 + 1) U gb' c' := set5 (cs := rwZ) HB3.out U gb' c'
        have kf := kp_set5 wr (s + 1 + 1) (.int .i64 (U.late : Int)) (.int .i64 (U.gone : Int)) (.int .i64 (U.now : Int)) (.int .i64 (U.ep : Int)) (.slice (some ⟨gb', 0, none⟩) U.hs.length c')
        clear r0 z0 g0 r1 z1 g1 r2 z2 g2 r3 z3 g3 r4 z4 g4
        generalize (((((wr.setCell ⟨s + 1 + 1, 0, none⟩ (.int .i64 (U.late : Int))).setCell ⟨s + 1 + 1, 1, none⟩ (.int .i64 (U.gone : Int))).setCell ⟨s + 1 + 1, 2, none⟩ (.int .i64 (U.now : Int))).setCell ⟨s + 1 + 1, 3, none⟩ (.int .i64 (U.ep : Int))).setCell ⟨s + 1 + 1, 4, none⟩ (.slice (some ⟨gb', 0, none⟩) U.hs.length c')) = w9 at hf kf ⊢
        have q0 := hf.c0
        have q1 := hf.c1
        have q2 := hf.c2
        have q3 := hf.c3
        have q4 := hf.c4
        refine bodyPost_ret (v := .agg (rwC U gb' c')) (by simp [results, Try.results21, go_sem, rwC, q0, q1, q2, q3, q4]) rfl ?_
        exact ⟨by rw [HE.out]; rfl, HKW.out.trans (kf.mono fun q hq => .inr (by rw [hq, ← HSZ.out]; omega))⟩
end
end Go.Proofs.Ytjmahbmlocfbhaa
