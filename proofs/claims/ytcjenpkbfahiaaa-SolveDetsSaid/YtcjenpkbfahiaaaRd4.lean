/- The document's Det, as a contract over memory. -/
import Derived.Test.YtcjenpkbfahiaaaOc
import Derived.Test.YtcjenpkbfahiaaaRt
import Derived.Test.YtcjenpkbfahiaaaSs
namespace Go.Proofs.Ytcjenpkbfahiaaa
open Go.RowKit
set_option linter.unusedVariables false
set_option linter.unusedSimpArgs false

/-- A row without one of its elements. -/
theorem rowL_skip {n m k : Nat} (g : Nat → UInt8) (hn : n = m + 1) (hk : k < n) : (rowL n g).take k ++ (rowL n g).drop (k + 1) = rowL m fun j => g (skp k j) := by
  apply List.ext_getElem?
  intro j
  have hl : ((rowL n g).take k).length = k := by rw [List.length_take, rowL_len]; omega
  by_cases h : j < k
  · rw [List.getElem?_append_left (by omega), List.getElem?_take, if_pos h, rowL_get _ (by omega), rowL_get _ (by omega)]
    unfold skp
    rw [if_pos h]
  · rw [List.getElem?_append_right (by omega), hl, List.getElem?_drop]
    by_cases h2 : j < m
    · rw [rowL_get _ (by omega), rowL_get _ h2]
      unfold skp
      rw [if_neg h, show k + 1 + (j - k) = j + 1 by omega]
    · rw [List.getElem?_eq_none (by rw [rowL_len]; omega), List.getElem?_eq_none (by rw [rowL_len]; omega)]
theorem Bts.upto {w : World} {B o n c k : Nat} {bs : List UInt8} (h : Bts w (.slice (some ⟨B, o, none⟩) n c) bs) (hk : k ≤ n) (c' : Nat) : Bts w (.slice (some ⟨B, o, none⟩) k c') (bs.take k) := by
  have hl := h.len
  obtain ⟨A, c1, e, _, hc⟩ := h
  injection e with e1 e2 e3
  subst e1
  refine ⟨_, c', by rw [List.length_take]; congr 1; omega, (fun h => by cases h), fun ad ha j u hu => ?_⟩
  injection ha with ha
  subst ha
  refine hc _ rfl j u ?_
  rw [List.getElem?_take] at hu
  split at hu
  · exact hu
  · cases hu
theorem Bts.from {w : World} {B o n c k : Nat} {bs : List UInt8} (h : Bts w (.slice (some ⟨B, o, none⟩) n c) bs) (hk : k ≤ n) (c' : Nat) : Bts w (.slice (some ⟨B, o + k, none⟩) (n - k) c') (bs.drop k) := by
  have hl := h.len
  obtain ⟨A, c1, e, _, hc⟩ := h
  injection e with e1 e2 e3
  subst e1
  refine ⟨_, c', by rw [List.length_drop]; congr 1; omega, (fun h => by cases h), fun ad ha j u hu => ?_⟩
  injection ha with ha
  subst ha
  rw [List.getElem?_drop] at hu
  have := hc _ rfl (k + j) u hu
  rw [add_none] at this
  rw [add_none, Nat.add_assoc]
  exact this
theorem Bts.none_ {w : World} (a : Addr) (c : Nat) : Bts w (.slice (some a) 0 c) [] := ⟨_, c, rfl, (fun h => by cases h), fun ad _ j u hu => by simp at hu⟩

/-- A term of the determinant. -/
def detT (m : Nat) (f : Nat → Nat → UInt8) (k : Nat) : UInt8 := um (f 0 k) (detF m (minF f k))
/-- What Det returns. -/
def DetPost (w : World) (n : Nat) (f : Nat → Nat → UInt8) (e : Ending) (w1 : World) : Prop := e = .returned (.int .u8 ((detF n f).toNat : Int)) ∧ Kp No w w1

theorem rdet_zero {w : World} (A : Option Addr) (cp : Nat) (f : Nat → Nat → UInt8) : Calls Try.prog 20 #[.slice A 0 cp] w (DetPost w 0 f) := by
  go_enter Try.func20, Try.ntmps20
  go_wp2_with fail
  go_ret
  exact ⟨rfl, Kp.refl _ _⟩

set_option maxHeartbeats 8000000 in
set_option maxRecDepth 100000 in
theorem rdet_succ {m n : Nat} (hnm : n = m + 1) (hn9 : n ≤ 9)
    (ih : ∀ (w : World) (A : Option Addr) (cp : Nat) (bss : List (List UInt8)), Rwc w A m bss → (∀ (j : Nat) bs, bss[j]? = some bs → bs.length = m) → Calls Try.prog 20 #[.slice A m cp] w (DetPost w m (fnL bss)))
    {w : World} {A : Option Addr} {cp : Nat} {bss : List (List UInt8)} (h : Rwc w A n bss) (hsq : ∀ (j : Nat) bs, bss[j]? = some bs → bs.length = n) : Calls Try.prog 20 #[.slice A n cp] w (DetPost w n (fnL bss)) := by
  obtain ⟨i0, hi0, hz0, hz1, hz2⟩ := byte_parts
  have hn0 : ((n : Int) == 0) = false := by simp; omega
  have hnp : 0 < n := by omega
  obtain ⟨B, off, A0, m0, cp0, bs0, rfl, hc0, hb0, hbt0, _⟩ := h.get (j := 0) (by omega)
  rw [Nat.add_zero] at hc0
  obtain rfl : m0 = n := by rw [hbt0.len]; exact hsq 0 bs0 hb0
  have hrow0 : bs0 = rowL m0 (fnL bss 0) := by
    rw [show fnL bss 0 = lg bs0 from funext fun j => fnL_of hb0 j]
    have := rowL_lg bs0
    rw [hsq 0 bs0 hb0] at this
    exact this.symm
  obtain ⟨B0, o0, _, rfl, _, _⟩ := hbt0.at_ (j := 0) (by omega)
  rw [hrow0] at hbt0
  have HIH := hide ih
  have HSQ := hide hsq
  have HNM := hide hnm
  have HC0 := hide hc0
  have hm9 : m ≤ 8 := by omega
  clear hb0 hrow0 ih hsq hnm hc0
  go_enter Try.func20, Try.ntmps20
  go_wp2_with fail
  go_loopw [3, 4] (fun d i wr => ∃ k : Nat, k ≤ m0 ∧ d = .int .u8 ((us (detT m (fnL bss)) k).toNat : Int) ∧ i = .int .i64 (k : Int) ∧ Kp No w wr) (fun _ i _ => m0 - (intOf i).toNat)
  case atStart => exact ⟨0, Nat.zero_le _, rfl, rfl, Kp.refl _ _⟩
  case round =>
    obtain ⟨k, hk, rfl, rfl, hkw⟩ := hrel
    by_cases hlt : k < m0
    · have x0 : wr.cell? ⟨B, off, none⟩ = some (.slice (some ⟨B0, o0, none⟩) m0 cp0) := hkw.cell HC0.out fun f => f
      have x1 : wr.cell? ⟨B0, o0 + k, none⟩ = some (.int .u8 ((fnL bss 0 k).toNat : Int)) := by
        obtain ⟨B', o', e, hx⟩ := (hbt0.no hkw).cell hlt
        injection e with e
        injection e with e1 e2
        subst e1 e2
        exact hx
      have hstep : Hid (us (detT m (fnL bss)) (k + 1) = ux (us (detT m (fnL bss)) k) (detT m (fnL bss) k)) := (rfl : us (detT m (fnL bss)) (k + 1) = _)
      obtain ⟨d, hd⟩ : ∃ d, d = us (detT m (fnL bss)) k := ⟨_, rfl⟩
      rw [← hd] at hstep ⊢
      clear hd
      by_cases h0 : fnL bss 0 k = 0
      · have t0 : (((fnL bss 0 k).toNat : Int) == 0) = true := by rw [h0]; rfl
        have HS : Hid (us (detT m (fnL bss)) (k + 1) = d) := by
          show us (detT m (fnL bss)) (k + 1) = d
          rw [hstep.out]
          unfold detT ux
          rw [h0, zero_um, ux_zero]
        clear h0
        go_wp2_with fail
        go_round
        case rel => exact ⟨k + 1, by omega, by rw [HS.out], by go_num, hkw⟩
        case measure => simp [intOf]; omega
      · have t0 : (((fnL bss 0 k).toNat : Int) == 0) = false := by have := u8_ne h0; simp; exact this
        clear h0
        go_wp2_with fail
        go_loopw [5, 6] (fun v i wr => ∃ (q : Nat) (A3 : Option Addr) (n3 cp3 : Nat) (vs : List Value), q + 1 ≤ m0 ∧ i = .int .i64 ((q + 1 : Nat) : Int) ∧ v = .slice A3 n3 cp3 ∧ RInv w (fun i => rowL m (minF (fnL bss) k i)) q (.slice A3 n3 cp3) vs wr) (fun _ i _ => m0 - (intOf i).toNat)
        case atStart => exact ⟨0, none, 0, 0, [], by omega, rfl, rfl, OwnV.nil _ _, rfl, (fun j u hj => by simp at hj), hkw⟩
        case round =>
          obtain ⟨q, A3, n3, cp3, vs, hq, rfl, rfl, hI⟩ := hrel
          obtain ⟨i, hi⟩ : ∃ i, i = q + 1 := ⟨_, rfl⟩
          rw [← hi]
          have hi1 : i ≤ m0 := by omega
          have HI := hide hi
          clear hi
          by_cases hlq : i < m0
          · obtain ⟨B', off', A1, m1, cp1, b1, hA, hcw, hb1, hbtw, hcp1⟩ := h.get hlq
            have hc1 := hI.kp.cell hcw fun f => f
            have hbt1 := hbtw.no hI.kp
            injection hA with hA
            injection hA with hA1 hA2
            subst hA1 hA2
            have hl1 := HSQ.out i b1 hb1
            obtain rfl : m1 = m0 := by rw [hbt1.len]; exact hl1
            obtain ⟨B1, o1, _, rfl, _, _⟩ := hbt1.at_ (j := 0) (by omega)
            have hb2 : b1 = rowL m1 (fnL bss i) := by
              rw [show fnL bss i = lg b1 from funext fun j => fnL_of hb1 j]
              have := rowL_lg b1
              rw [hl1] at this
              exact this.symm
            have hbd := hbt1.no (Sm.drew wr).kp
            have HR : Hid (b1.take k ++ b1.drop (k + 1) = rowL m (minF (fnL bss) k q)) := by
              show b1.take k ++ b1.drop (k + 1) = _
              rw [hb2, rowL_skip _ HNM.out hlt, HI.out]
              rfl
            have hl1' : b1.length ≤ 1000 := by omega
            have hId : RInv w (fun i => rowL m (minF (fnL bss) k i)) q (.slice A3 n3 cp3) vs wr.drew := ⟨hI.own.no (Sm.drew wr).kp, hI.len, fun j u hj => (hI.row j u hj).no (Sm.drew wr).kp, hI.kp.drew⟩
            have hsz : w.heap.size ≤ wr.drew.heap.size := hId.kp.size
            have hvl : vs.length ≤ 1000000 := by have := hI.len; omega
            have xd : wr.drew.cell? ⟨B, off + i, none⟩ = some (.slice (some ⟨B1, o1, none⟩) m1 cp1) := (Sm.drew wr).kp.cell (S := No) hc1 fun f => f
            have wk : IntKind.i64.wrap ((k : Int) + 1) = (k : Int) + 1 := IntWalk.i64_in _ (by omega)
            have n1 : (0 : Int) ≤ (k : Int) + 1 := by omega
            have n2 : ((k : Int) + 1).toNat = k + 1 := by omega
            have n3' : (k : Int) + 1 ≤ (m1 : Int) := by omega
            have n4 : (k : Int) ≤ (cp1 : Int) := by omega
            have n5 : (k : Int) ≤ (k : Int) + 1 := by omega
            have HL : Hid (k + 1 ≤ m1 ∧ k ≤ m1) := ⟨by omega, by omega⟩
            have HCW := hide hcw
            clear hb1 hb2 hl1 hI hc1 hbt1 hcw hbtw
            by_cases hcap : cp1 = k + 1
            · have hx2 : ∀ w2 c', Kp No wr.drew w2 → Bts w2 (.slice (some ⟨B1, o1, none⟩) (m1 - (k + 1)) c') (b1.drop (k + 1)) := fun w2 c' hk2 => by
                have e : m1 - (k + 1) = 0 := by omega
                have e2 : b1.drop (k + 1) = [] := List.drop_eq_nil_of_le (by have := hbd.len; omega)
                rw [e, e2]
                exact Bts.none_ _ _
              have HX2 := hide hx2
              clear hx2
              go_wp2_with fail
              refine wp_region_noPanic ?_
              refine wp_region_held_drew (S := fun w' => w'.cell? ⟨B, off + i, none⟩ = some (.slice (some ⟨B1, o1, none⟩) m1 cp1)) (by kernel_rfl) (xd) (fun hHeld => ?_)
              generalize wr.drew = wd at *
              have hx1 : ∀ c', Bts wd (.slice (some ⟨B1, o1, none⟩) k c') (b1.take k) := fun c' => hbd.upto HL.out.2 c'
              have HX1 := hide hx1
              clear hx1
              refine wpAnyH_take (i := 0) (v := ?va0) (oi := ?oa0) ?ha0 (by kernel_rfl) (by kernel_rfl) (by kernel_rfl) (fun _ _ _ h => h) (Or.inl ⟨?wa0, ?ya0⟩) hHeld ?ra0
              case ha0 => simp only [List.getElem?_toArray, List.getElem?_cons_zero, List.getElem?_cons_succ]; rfl
              case wa0 => rfl
              case ya0 => intro w hSw; (try dsimp only at hSw); go_simp; (try with_reducible rfl)
              simp only [Act.put, List.setIfInBounds_toArray, List.set_cons_zero, List.set_cons_succ]
              refine wpAnyH_take (i := 2) (v := ?va2) (oi := ?oa2) ?ha2 (by kernel_rfl) (by kernel_rfl) (by kernel_rfl) (fun _ _ _ h => h) (Or.inl ⟨?wa2, ?ya2⟩) hHeld ?ra2
              case ha2 => simp only [List.getElem?_toArray, List.getElem?_cons_zero, List.getElem?_cons_succ]; rfl
              case wa2 => rfl
              case ya2 => intro w hSw; (try dsimp only at hSw); go_simp; (try with_reducible rfl)
              simp only [Act.put, List.setIfInBounds_toArray, List.set_cons_zero, List.set_cons_succ]
              refine wpAnyH_take (i := 3) (v := ?va3) (oi := ?oa3) ?ha3 (by kernel_rfl) (by kernel_rfl) (by kernel_rfl) (fun _ _ _ h => h) (Or.inl ⟨?wa3, ?ya3⟩) hHeld ?ra3
              case ha3 => simp only [List.getElem?_toArray, List.getElem?_cons_zero, List.getElem?_cons_succ]; rfl
              case wa3 => rfl
              case ya3 => intro w hSw; (try dsimp only at hSw); go_simp; (try with_reducible rfl)
              simp only [Act.put, List.setIfInBounds_toArray, List.set_cons_zero, List.set_cons_succ]
              refine wpAnyH_take (i := 4) (v := ?va4) (oi := ?oa4) ?ha4 (by kernel_rfl) (by kernel_rfl) (by kernel_rfl) (fun _ _ _ h => h) (Or.inl ⟨?wa4, ?ya4⟩) hHeld ?ra4
              case ha4 => simp only [List.getElem?_toArray, List.getElem?_cons_zero, List.getElem?_cons_succ]; rfl
              case wa4 => rfl
              case ya4 => intro w hSw; (try dsimp only at hSw); go_simp; (try with_reducible rfl)
              simp only [Act.put, List.setIfInBounds_toArray, List.set_cons_zero, List.set_cons_succ]
              refine wpAnyH_take (i := 5) (v := ?va5) (oi := ?oa5) ?ha5 (by kernel_rfl) (by kernel_rfl) (by kernel_rfl) (fun _ _ _ h => h) (Or.inl ⟨?wa5, ?ya5⟩) hHeld ?ra5
              case ha5 => simp only [List.getElem?_toArray, List.getElem?_cons_zero, List.getElem?_cons_succ]; rfl
              case wa5 => rfl
              case ya5 => intro w hSw; (try dsimp only at hSw); go_simp; (try with_reducible rfl)
              simp only [Act.put, List.setIfInBounds_toArray, List.set_cons_zero, List.set_cons_succ]
              refine wpAnyH_take (i := 6) (v := ?va6) (oi := ?oa6) ?ha6 (by kernel_rfl) (by kernel_rfl) (by kernel_rfl) (fun _ _ _ h => h) (Or.inl ⟨?wa6, ?ya6⟩) hHeld ?ra6
              case ha6 => simp only [List.getElem?_toArray, List.getElem?_cons_zero, List.getElem?_cons_succ]; rfl
              case wa6 => rfl
              case ya6 => intro w hSw; (try dsimp only at hSw); go_simp; (try with_reducible rfl)
              simp only [Act.put, List.setIfInBounds_toArray, List.set_cons_zero, List.set_cons_succ]
              refine wpAnyH_take (i := 7) (v := ?va7) (oi := ?oa7) ?ha7 (by kernel_rfl) (by kernel_rfl) (by kernel_rfl) (fun _ _ _ h => h) (Or.inl ⟨?wa7, ?ya7⟩) hHeld ?ra7
              case ha7 => simp only [List.getElem?_toArray, List.getElem?_cons_zero, List.getElem?_cons_succ]; rfl
              case wa7 => rfl
              case ya7 => intro w hSw; (try dsimp only at hSw); go_simp; (try with_reducible rfl)
              simp only [Act.put, List.setIfInBounds_toArray, List.set_cons_zero, List.set_cons_succ]
              refine wpAnyH_take (i := 9) (v := ?va9) (oi := ?oa9) ?ha9 (by kernel_rfl) (by kernel_rfl) (by kernel_rfl) (fun _ _ _ h => h) (Or.inl ⟨?wa9, ?ya9⟩) hHeld ?ra9
              case ha9 => simp only [List.getElem?_toArray, List.getElem?_cons_zero, List.getElem?_cons_succ]; rfl
              case wa9 => rfl
              case ya9 => intro w hSw; (try dsimp only at hSw); go_simp; (try with_reducible rfl)
              simp only [Act.put, List.setIfInBounds_toArray, List.set_cons_zero, List.set_cons_succ]
              refine wpAnyH_take (i := 10) (v := ?va10) (oi := ?oa10) ?ha10 (by kernel_rfl) (by kernel_rfl) (by kernel_rfl) (fun _ _ _ h => h) (Or.inl ⟨?wa10, ?ya10⟩) hHeld ?ra10
              case ha10 => simp only [List.getElem?_toArray, List.getElem?_cons_zero, List.getElem?_cons_succ]; rfl
              case wa10 => rfl
              case ya10 => intro w hSw; (try dsimp only at hSw); go_simp; (try with_reducible rfl)
              simp only [Act.put, List.setIfInBounds_toArray, List.set_cons_zero, List.set_cons_succ]
              refine wpAnyH_take (i := 11) (v := ?va11) (oi := ?oa11) ?ha11 (by kernel_rfl) (by kernel_rfl) (by kernel_rfl) (fun _ _ _ h => h) (Or.inl ⟨?wa11, ?ya11⟩) hHeld ?ra11
              case ha11 => simp only [List.getElem?_toArray, List.getElem?_cons_zero, List.getElem?_cons_succ]; rfl
              case wa11 => rfl
              case ya11 => intro w hSw; (try dsimp only at hSw); go_simp; (try with_reducible rfl)
              simp only [Act.put, List.setIfInBounds_toArray, List.set_cons_zero, List.set_cons_succ]
              refine wpAnyH_take (i := 12) (v := ?va12) (oi := ?oa12) ?ha12 (by kernel_rfl) (by kernel_rfl) (by kernel_rfl) (fun _ _ _ h => h) (Or.inl ⟨?wa12, ?ya12⟩) hHeld ?ra12
              case ha12 => simp only [List.getElem?_toArray, List.getElem?_cons_zero, List.getElem?_cons_succ]; rfl
              case wa12 => rfl
              case ya12 => intro w hSw; (try dsimp only at hSw); go_simp; (try with_reducible rfl)
              simp only [Act.put, List.setIfInBounds_toArray, List.set_cons_zero, List.set_cons_succ]
              refine wpAnyH_take (i := 13) (v := ?va13) (oi := ?oa13) ?ha13 (by kernel_rfl) (by kernel_rfl) (by kernel_rfl) (fun _ _ _ h => h) (Or.inl ⟨?wa13, ?ya13⟩) hHeld ?ra13
              case ha13 => simp only [List.getElem?_toArray, List.getElem?_cons_zero, List.getElem?_cons_succ]; rfl
              case wa13 => rfl
              case ya13 => intro w hSw; (try dsimp only at hSw); go_simp; (try with_reducible rfl)
              simp only [Act.put, List.setIfInBounds_toArray, List.set_cons_zero, List.set_cons_succ]
              refine wpAnyH_take (i := 14) (v := ?va14) (oi := ?oa14) ?ha14 (by kernel_rfl) (by kernel_rfl) (by kernel_rfl) (fun _ _ _ h => h) (Or.inl ⟨?wa14, ?ya14⟩) hHeld ?ra14
              case ha14 => simp only [List.getElem?_toArray, List.getElem?_cons_zero, List.getElem?_cons_succ]; rfl
              case wa14 => rfl
              case ya14 => intro w hSw; (try dsimp only at hSw); go_simp; (try with_reducible rfl)
              simp only [Act.put, List.setIfInBounds_toArray, List.set_cons_zero, List.set_cons_succ]
              refine wpAnyH_take (i := 15) (v := ?va15) (oi := ?oa15) ?ha15 (by kernel_rfl) (by kernel_rfl) (by kernel_rfl) (fun _ _ _ h => h) (Or.inl ⟨?wa15, ?ya15⟩) hHeld ?ra15
              case ha15 => simp only [List.getElem?_toArray, List.getElem?_cons_zero, List.getElem?_cons_succ]; rfl
              case wa15 => rfl
              case ya15 => intro w hSw; (try dsimp only at hSw); go_simp; (try with_reducible rfl)
              simp only [Act.put, List.setIfInBounds_toArray, List.set_cons_zero, List.set_cons_succ]
              refine wpAnyH_ready (rs := [1]) (by kernel_rfl) (by simp) ?_
              refine AllReadyH.cons (o := ?oa1) ?ha1 (fun K hK => ?sa1) AllReadyH.nil
              case ha1 => simp only [List.getElem?_toArray, List.getElem?_cons_zero, List.getElem?_cons_succ]; rfl
              go_simp
              refine hK.out _ _ ((Kp.alloc No _ _).cell xd fun f => f) (fun hHeld => ?_)
              clear hK K
              try simp only [Act.put, List.setIfInBounds_toArray, List.set_cons_zero, List.set_cons_succ]
              refine wpAnyH_ready (rs := [8]) (by kernel_rfl) (by simp) ?_
              refine AllReadyH.cons (o := ?oa8) ?ha8 (fun K hK => ?sa8) AllReadyH.nil
              case ha8 => simp only [List.getElem?_toArray, List.getElem?_cons_zero, List.getElem?_cons_succ]; rfl
              refine step_app rfl (.tmp 30) (.tmp 36) _ rfl i0 Try.underlying36 hi0 hz0 hz1 hz2 rfl (own_empty wd) rfl ((HX1.out _).no (Kp.alloc No _ _)) ?l8a ?b8a ?_
              case l8a => simp; omega
              case b8a => simp
              intro A4 n4 c4 w4 ha4
              have k4 : Kp No wd w4 := ha4.keeps (own_empty wd) (Kp.alloc No _ _)
              have x4 : w4.cell? ⟨B, off + i, none⟩ = some (.slice (some ⟨B1, o1, none⟩) m1 cp1) := k4.cell xd fun f => f
              refine hK.out _ _ (x4) (fun hHeld => ?_)
              clear hK K
              try simp only [Act.put, List.setIfInBounds_toArray, List.set_cons_zero, List.set_cons_succ]
              refine wpAnyH_ready (rs := [16]) (by kernel_rfl) (by simp) ?_
              refine AllReadyH.cons (o := ?oa16) ?ha16 (fun K hK => ?sa16) AllReadyH.nil
              case ha16 => simp only [List.getElem?_toArray, List.getElem?_cons_zero, List.getElem?_cons_succ]; rfl
              refine step_app rfl (.tmp 37) (.tmp 44) _ rfl i0 Try.underlying36 hi0 hz0 hz1 hz2 rfl ha4.own rfl (HX2.out _ _ k4) ?l16a k4.size ?_
              case l16a => simp; omega
              intro A5 n5 c5 w5 ha5
              have k5 : Kp No wd w5 := ha5.keeps ha4.own k4
              have x5 : w5.cell? ⟨B, off + i, none⟩ = some (.slice (some ⟨B1, o1, none⟩) m1 cp1) := k5.cell xd fun f => f
              refine hK.out _ _ (x5) (fun hHeld => ?_)
              clear hK K
              try simp only [Act.put, List.setIfInBounds_toArray, List.set_cons_zero, List.set_cons_succ]
              refine wpAnyH_ready (rs := [17]) (by kernel_rfl) (by simp) ?_
              refine AllReadyH.cons (o := ?oa17) ?ha17 (fun K hK => ?sa17) AllReadyH.nil
              case ha17 => simp only [List.getElem?_toArray, List.getElem?_cons_zero, List.getElem?_cons_succ]; rfl
              go_simp
              refine hK.out _ _ ((Kp.alloc No _ _).cell x5 fun f => f) (fun hHeld => ?_)
              clear hK K
              try simp only [Act.put, List.setIfInBounds_toArray, List.set_cons_zero, List.set_cons_succ]
              refine wpAnyH_ready (rs := [18]) (by kernel_rfl) (by simp) ?_
              refine AllReadyH.cons (o := ?oa18) ?ha18 (fun K hK => ?sa18) AllReadyH.nil
              case ha18 => simp only [List.getElem?_toArray, List.getElem?_cons_zero, List.getElem?_cons_succ]; rfl
              refine step_appV rfl (.tmp 29) (.tmp 46) _ rfl Try.underlying22 rfl ((hId.own.no k5).no (Kp.alloc No _ (.cells #[.slice A5 n5 c5] 36))) _ rfl (fresh_cell _ _ _) rfl rfl hvl ?b18a ?_
              case b18a => have := k5.size; simp; omega
              intro A6 n6 c6 w6 ha6
              have k6 : Kp No w w6 := ha6.keeps ((hId.own.no k5).no (Kp.alloc No _ _)) ((hId.kp.trans' k5).trans' (Kp.alloc No _ _))
              have x6 : w6.cell? ⟨B, off + i, none⟩ = some (.slice (some ⟨B1, o1, none⟩) m1 cp1) := k6.cell HCW.out fun f => f
              refine hK.out _ _ (x6) (fun hHeld => ?_)
              clear hK K
              try simp only [Act.put, List.setIfInBounds_toArray, List.set_cons_zero, List.set_cons_succ]
              refine wpAnyH_take (i := 19) (v := ?va19) (oi := ?oa19) ?ha19 (by kernel_rfl) (by kernel_rfl) (by kernel_rfl) (fun _ _ _ h => h) (Or.inl ⟨?wa19, ?ya19⟩) hHeld ?ra19
              case ha19 => simp only [List.getElem?_toArray, List.getElem?_cons_zero, List.getElem?_cons_succ]; rfl
              case wa19 => rfl
              case ya19 => intro w hSw; (try dsimp only at hSw); go_simp; (try with_reducible rfl)
              simp only [Act.put, List.setIfInBounds_toArray, List.set_cons_zero, List.set_cons_succ]
              refine wpAnyH_done (by kernel_rfl) ?_ _
              refine NoPanic.normal ?_
              have hu5 : Own w5 wd.heap.size 5 (.slice A5 n5 c5) (rowL m (minF (fnL bss) k q)) := by rw [← HR.out]; simpa using ha5.own
              have HN := hide (hId.step k5 hu5 hsz ha6)
              have HIQ : Hid (.int .i64 ((i : Int) + 1) = Value.int .i64 ((q + 1 + 1 : Nat) : Int)) := by show Value.int .i64 ((i : Int) + 1) = _; rw [HI.out]; go_num
              go_wp2_with fail
              go_round
              case rel => exact ⟨q + 1, A6, n6, c6, _, by have := HI.out; omega, HIQ.out, rfl, HN.out⟩
              case measure => simp [intOf]; omega
            · have hx2 : ∀ w2 c', Kp No wr.drew w2 → Bts w2 (.slice (some ⟨B1, o1 + (k + 1), none⟩) (m1 - (k + 1)) c') (b1.drop (k + 1)) := fun w2 c' hk2 => by
                exact (hbd.no hk2).from HL.out.1 _
              have HX2 := hide hx2
              clear hx2
              go_wp2_with fail
              refine wp_region_noPanic ?_
              refine wp_region_held_drew (S := fun w' => w'.cell? ⟨B, off + i, none⟩ = some (.slice (some ⟨B1, o1, none⟩) m1 cp1)) (by kernel_rfl) (xd) (fun hHeld => ?_)
              generalize wr.drew = wd at *
              have hx1 : ∀ c', Bts wd (.slice (some ⟨B1, o1, none⟩) k c') (b1.take k) := fun c' => hbd.upto HL.out.2 c'
              have HX1 := hide hx1
              clear hx1
              refine wpAnyH_take (i := 0) (v := ?vb0) (oi := ?ob0) ?hb0 (by kernel_rfl) (by kernel_rfl) (by kernel_rfl) (fun _ _ _ h => h) (Or.inl ⟨?wb0, ?yb0⟩) hHeld ?rb0
              case hb0 => simp only [List.getElem?_toArray, List.getElem?_cons_zero, List.getElem?_cons_succ]; rfl
              case wb0 => rfl
              case yb0 => intro w hSw; (try dsimp only at hSw); go_simp; (try with_reducible rfl)
              simp only [Act.put, List.setIfInBounds_toArray, List.set_cons_zero, List.set_cons_succ]
              refine wpAnyH_take (i := 2) (v := ?vb2) (oi := ?ob2) ?hb2 (by kernel_rfl) (by kernel_rfl) (by kernel_rfl) (fun _ _ _ h => h) (Or.inl ⟨?wb2, ?yb2⟩) hHeld ?rb2
              case hb2 => simp only [List.getElem?_toArray, List.getElem?_cons_zero, List.getElem?_cons_succ]; rfl
              case wb2 => rfl
              case yb2 => intro w hSw; (try dsimp only at hSw); go_simp; (try with_reducible rfl)
              simp only [Act.put, List.setIfInBounds_toArray, List.set_cons_zero, List.set_cons_succ]
              refine wpAnyH_take (i := 3) (v := ?vb3) (oi := ?ob3) ?hb3 (by kernel_rfl) (by kernel_rfl) (by kernel_rfl) (fun _ _ _ h => h) (Or.inl ⟨?wb3, ?yb3⟩) hHeld ?rb3
              case hb3 => simp only [List.getElem?_toArray, List.getElem?_cons_zero, List.getElem?_cons_succ]; rfl
              case wb3 => rfl
              case yb3 => intro w hSw; (try dsimp only at hSw); go_simp; (try with_reducible rfl)
              simp only [Act.put, List.setIfInBounds_toArray, List.set_cons_zero, List.set_cons_succ]
              refine wpAnyH_take (i := 4) (v := ?vb4) (oi := ?ob4) ?hb4 (by kernel_rfl) (by kernel_rfl) (by kernel_rfl) (fun _ _ _ h => h) (Or.inl ⟨?wb4, ?yb4⟩) hHeld ?rb4
              case hb4 => simp only [List.getElem?_toArray, List.getElem?_cons_zero, List.getElem?_cons_succ]; rfl
              case wb4 => rfl
              case yb4 => intro w hSw; (try dsimp only at hSw); go_simp; (try with_reducible rfl)
              simp only [Act.put, List.setIfInBounds_toArray, List.set_cons_zero, List.set_cons_succ]
              refine wpAnyH_take (i := 5) (v := ?vb5) (oi := ?ob5) ?hb5 (by kernel_rfl) (by kernel_rfl) (by kernel_rfl) (fun _ _ _ h => h) (Or.inl ⟨?wb5, ?yb5⟩) hHeld ?rb5
              case hb5 => simp only [List.getElem?_toArray, List.getElem?_cons_zero, List.getElem?_cons_succ]; rfl
              case wb5 => rfl
              case yb5 => intro w hSw; (try dsimp only at hSw); go_simp; (try with_reducible rfl)
              simp only [Act.put, List.setIfInBounds_toArray, List.set_cons_zero, List.set_cons_succ]
              refine wpAnyH_take (i := 6) (v := ?vb6) (oi := ?ob6) ?hb6 (by kernel_rfl) (by kernel_rfl) (by kernel_rfl) (fun _ _ _ h => h) (Or.inl ⟨?wb6, ?yb6⟩) hHeld ?rb6
              case hb6 => simp only [List.getElem?_toArray, List.getElem?_cons_zero, List.getElem?_cons_succ]; rfl
              case wb6 => rfl
              case yb6 => intro w hSw; (try dsimp only at hSw); go_simp; (try with_reducible rfl)
              simp only [Act.put, List.setIfInBounds_toArray, List.set_cons_zero, List.set_cons_succ]
              refine wpAnyH_take (i := 7) (v := ?vb7) (oi := ?ob7) ?hb7 (by kernel_rfl) (by kernel_rfl) (by kernel_rfl) (fun _ _ _ h => h) (Or.inl ⟨?wb7, ?yb7⟩) hHeld ?rb7
              case hb7 => simp only [List.getElem?_toArray, List.getElem?_cons_zero, List.getElem?_cons_succ]; rfl
              case wb7 => rfl
              case yb7 => intro w hSw; (try dsimp only at hSw); go_simp; (try with_reducible rfl)
              simp only [Act.put, List.setIfInBounds_toArray, List.set_cons_zero, List.set_cons_succ]
              refine wpAnyH_take (i := 9) (v := ?vb9) (oi := ?ob9) ?hb9 (by kernel_rfl) (by kernel_rfl) (by kernel_rfl) (fun _ _ _ h => h) (Or.inl ⟨?wb9, ?yb9⟩) hHeld ?rb9
              case hb9 => simp only [List.getElem?_toArray, List.getElem?_cons_zero, List.getElem?_cons_succ]; rfl
              case wb9 => rfl
              case yb9 => intro w hSw; (try dsimp only at hSw); go_simp; (try with_reducible rfl)
              simp only [Act.put, List.setIfInBounds_toArray, List.set_cons_zero, List.set_cons_succ]
              refine wpAnyH_take (i := 10) (v := ?vb10) (oi := ?ob10) ?hb10 (by kernel_rfl) (by kernel_rfl) (by kernel_rfl) (fun _ _ _ h => h) (Or.inl ⟨?wb10, ?yb10⟩) hHeld ?rb10
              case hb10 => simp only [List.getElem?_toArray, List.getElem?_cons_zero, List.getElem?_cons_succ]; rfl
              case wb10 => rfl
              case yb10 => intro w hSw; (try dsimp only at hSw); go_simp; (try with_reducible rfl)
              simp only [Act.put, List.setIfInBounds_toArray, List.set_cons_zero, List.set_cons_succ]
              refine wpAnyH_take (i := 11) (v := ?vb11) (oi := ?ob11) ?hb11 (by kernel_rfl) (by kernel_rfl) (by kernel_rfl) (fun _ _ _ h => h) (Or.inl ⟨?wb11, ?yb11⟩) hHeld ?rb11
              case hb11 => simp only [List.getElem?_toArray, List.getElem?_cons_zero, List.getElem?_cons_succ]; rfl
              case wb11 => rfl
              case yb11 => intro w hSw; (try dsimp only at hSw); go_simp; (try with_reducible rfl)
              simp only [Act.put, List.setIfInBounds_toArray, List.set_cons_zero, List.set_cons_succ]
              refine wpAnyH_take (i := 12) (v := ?vb12) (oi := ?ob12) ?hb12 (by kernel_rfl) (by kernel_rfl) (by kernel_rfl) (fun _ _ _ h => h) (Or.inl ⟨?wb12, ?yb12⟩) hHeld ?rb12
              case hb12 => simp only [List.getElem?_toArray, List.getElem?_cons_zero, List.getElem?_cons_succ]; rfl
              case wb12 => rfl
              case yb12 => intro w hSw; (try dsimp only at hSw); go_simp; (try with_reducible rfl)
              simp only [Act.put, List.setIfInBounds_toArray, List.set_cons_zero, List.set_cons_succ]
              refine wpAnyH_take (i := 13) (v := ?vb13) (oi := ?ob13) ?hb13 (by kernel_rfl) (by kernel_rfl) (by kernel_rfl) (fun _ _ _ h => h) (Or.inl ⟨?wb13, ?yb13⟩) hHeld ?rb13
              case hb13 => simp only [List.getElem?_toArray, List.getElem?_cons_zero, List.getElem?_cons_succ]; rfl
              case wb13 => rfl
              case yb13 => intro w hSw; (try dsimp only at hSw); go_simp; (try with_reducible rfl)
              simp only [Act.put, List.setIfInBounds_toArray, List.set_cons_zero, List.set_cons_succ]
              refine wpAnyH_take (i := 14) (v := ?vb14) (oi := ?ob14) ?hb14 (by kernel_rfl) (by kernel_rfl) (by kernel_rfl) (fun _ _ _ h => h) (Or.inl ⟨?wb14, ?yb14⟩) hHeld ?rb14
              case hb14 => simp only [List.getElem?_toArray, List.getElem?_cons_zero, List.getElem?_cons_succ]; rfl
              case wb14 => rfl
              case yb14 => intro w hSw; (try dsimp only at hSw); go_simp; (try with_reducible rfl)
              simp only [Act.put, List.setIfInBounds_toArray, List.set_cons_zero, List.set_cons_succ]
              refine wpAnyH_take (i := 15) (v := ?vb15) (oi := ?ob15) ?hb15 (by kernel_rfl) (by kernel_rfl) (by kernel_rfl) (fun _ _ _ h => h) (Or.inl ⟨?wb15, ?yb15⟩) hHeld ?rb15
              case hb15 => simp only [List.getElem?_toArray, List.getElem?_cons_zero, List.getElem?_cons_succ]; rfl
              case wb15 => rfl
              case yb15 => intro w hSw; (try dsimp only at hSw); go_simp; (try with_reducible rfl)
              simp only [Act.put, List.setIfInBounds_toArray, List.set_cons_zero, List.set_cons_succ]
              refine wpAnyH_ready (rs := [1]) (by kernel_rfl) (by simp) ?_
              refine AllReadyH.cons (o := ?ob1) ?hb1 (fun K hK => ?sb1) AllReadyH.nil
              case hb1 => simp only [List.getElem?_toArray, List.getElem?_cons_zero, List.getElem?_cons_succ]; rfl
              go_simp
              refine hK.out _ _ ((Kp.alloc No _ _).cell xd fun f => f) (fun hHeld => ?_)
              clear hK K
              try simp only [Act.put, List.setIfInBounds_toArray, List.set_cons_zero, List.set_cons_succ]
              refine wpAnyH_ready (rs := [8]) (by kernel_rfl) (by simp) ?_
              refine AllReadyH.cons (o := ?ob8) ?hb8 (fun K hK => ?sb8) AllReadyH.nil
              case hb8 => simp only [List.getElem?_toArray, List.getElem?_cons_zero, List.getElem?_cons_succ]; rfl
              refine step_app rfl (.tmp 30) (.tmp 36) _ rfl i0 Try.underlying36 hi0 hz0 hz1 hz2 rfl (own_empty wd) rfl ((HX1.out _).no (Kp.alloc No _ _)) ?l8b ?b8b ?_
              case l8b => simp; omega
              case b8b => simp
              intro A4 n4 c4 w4 ha4
              have k4 : Kp No wd w4 := ha4.keeps (own_empty wd) (Kp.alloc No _ _)
              have x4 : w4.cell? ⟨B, off + i, none⟩ = some (.slice (some ⟨B1, o1, none⟩) m1 cp1) := k4.cell xd fun f => f
              refine hK.out _ _ (x4) (fun hHeld => ?_)
              clear hK K
              try simp only [Act.put, List.setIfInBounds_toArray, List.set_cons_zero, List.set_cons_succ]
              refine wpAnyH_ready (rs := [16]) (by kernel_rfl) (by simp) ?_
              refine AllReadyH.cons (o := ?ob16) ?hb16 (fun K hK => ?sb16) AllReadyH.nil
              case hb16 => simp only [List.getElem?_toArray, List.getElem?_cons_zero, List.getElem?_cons_succ]; rfl
              refine step_app rfl (.tmp 37) (.tmp 44) _ rfl i0 Try.underlying36 hi0 hz0 hz1 hz2 rfl ha4.own rfl (HX2.out _ _ k4) ?l16b k4.size ?_
              case l16b => simp; omega
              intro A5 n5 c5 w5 ha5
              have k5 : Kp No wd w5 := ha5.keeps ha4.own k4
              have x5 : w5.cell? ⟨B, off + i, none⟩ = some (.slice (some ⟨B1, o1, none⟩) m1 cp1) := k5.cell xd fun f => f
              refine hK.out _ _ (x5) (fun hHeld => ?_)
              clear hK K
              try simp only [Act.put, List.setIfInBounds_toArray, List.set_cons_zero, List.set_cons_succ]
              refine wpAnyH_ready (rs := [17]) (by kernel_rfl) (by simp) ?_
              refine AllReadyH.cons (o := ?ob17) ?hb17 (fun K hK => ?sb17) AllReadyH.nil
              case hb17 => simp only [List.getElem?_toArray, List.getElem?_cons_zero, List.getElem?_cons_succ]; rfl
              go_simp
              refine hK.out _ _ ((Kp.alloc No _ _).cell x5 fun f => f) (fun hHeld => ?_)
              clear hK K
              try simp only [Act.put, List.setIfInBounds_toArray, List.set_cons_zero, List.set_cons_succ]
              refine wpAnyH_ready (rs := [18]) (by kernel_rfl) (by simp) ?_
              refine AllReadyH.cons (o := ?ob18) ?hb18 (fun K hK => ?sb18) AllReadyH.nil
              case hb18 => simp only [List.getElem?_toArray, List.getElem?_cons_zero, List.getElem?_cons_succ]; rfl
              refine step_appV rfl (.tmp 29) (.tmp 46) _ rfl Try.underlying22 rfl ((hId.own.no k5).no (Kp.alloc No _ (.cells #[.slice A5 n5 c5] 36))) _ rfl (fresh_cell _ _ _) rfl rfl hvl ?b18b ?_
              case b18b => have := k5.size; simp; omega
              intro A6 n6 c6 w6 ha6
              have k6 : Kp No w w6 := ha6.keeps ((hId.own.no k5).no (Kp.alloc No _ _)) ((hId.kp.trans' k5).trans' (Kp.alloc No _ _))
              have x6 : w6.cell? ⟨B, off + i, none⟩ = some (.slice (some ⟨B1, o1, none⟩) m1 cp1) := k6.cell HCW.out fun f => f
              refine hK.out _ _ (x6) (fun hHeld => ?_)
              clear hK K
              try simp only [Act.put, List.setIfInBounds_toArray, List.set_cons_zero, List.set_cons_succ]
              refine wpAnyH_take (i := 19) (v := ?vb19) (oi := ?ob19) ?hb19 (by kernel_rfl) (by kernel_rfl) (by kernel_rfl) (fun _ _ _ h => h) (Or.inl ⟨?wb19, ?yb19⟩) hHeld ?rb19
              case hb19 => simp only [List.getElem?_toArray, List.getElem?_cons_zero, List.getElem?_cons_succ]; rfl
              case wb19 => rfl
              case yb19 => intro w hSw; (try dsimp only at hSw); go_simp; (try with_reducible rfl)
              simp only [Act.put, List.setIfInBounds_toArray, List.set_cons_zero, List.set_cons_succ]
              refine wpAnyH_done (by kernel_rfl) ?_ _
              refine NoPanic.normal ?_
              have hu5 : Own w5 wd.heap.size 5 (.slice A5 n5 c5) (rowL m (minF (fnL bss) k q)) := by rw [← HR.out]; simpa using ha5.own
              have HN := hide (hId.step k5 hu5 hsz ha6)
              have HIQ : Hid (.int .i64 ((i : Int) + 1) = Value.int .i64 ((q + 1 + 1 : Nat) : Int)) := by show Value.int .i64 ((i : Int) + 1) = _; rw [HI.out]; go_num
              go_wp2_with fail
              go_round
              case rel => exact ⟨q + 1, A6, n6, c6, _, by have := HI.out; omega, HIQ.out, rfl, HN.out⟩
              case measure => simp [intOf]; omega
          · obtain rfl : i = m0 := by omega
            obtain rfl : q = m := by have := HI.out; have := HNM.out; omega
            obtain rfl : n3 = q := by rw [hI.own.len, hI.len]
            have hRw : Rwc wr.drew A3 n3 (matL n3 n3 (minF (fnL bss) k)) := (hI.rwc (matL_len _ _ _) fun j hj => matL_get _ hj).no (Sm.drew wr).kp
            have hrl : ∀ (j : Nat) bs, (matL n3 n3 (minF (fnL bss) k))[j]? = some bs → bs.length = n3 := fun j bs hj => by
              have hjl : j < n3 := by have := (List.getElem?_eq_some_iff.1 hj).1; rwa [matL_len] at this
              rw [matL_get _ hjl] at hj
              injection hj with hj
              rw [← hj, rowL_len]
            have hih := HIH.out _ _ cp3 _ hRw hrl
            have HIH2 := hide hih
            have HDC : Hid (detF n3 (fnL (matL n3 n3 (minF (fnL bss) k))) = detF n3 (minF (fnL bss) k)) := detF_congr (fnL_matL _)
            have s0 : wr.drew.cell? ⟨B, off, none⟩ = some (.slice (some ⟨B0, o0, none⟩) i cp0) ∧ wr.drew.cell? ⟨B0, o0 + k, none⟩ = some (.int .u8 ((fnL bss 0 k).toNat : Int)) := ⟨(hI.kp.drew).cell HC0.out fun f => f, by
              obtain ⟨B', o', e, hx⟩ := (hbt0.no hI.kp.drew).cell hlt
              injection e with e
              injection e with e1 e2
              subst e1 e2
              exact hx⟩
            have hxor := xorU d (um (fnL bss 0 k) (detF n3 (minF (fnL bss) k)))
            have S0 := hide s0
            have kd : Kp No w wr.drew := hI.kp.drew
            clear hrl hih s0 x0 x1
            go_wp2_with fail
            refine wp_region_noPanic ?_
            refine wp_region_held_drew (S := fun w' => w'.cell? ⟨B, off, none⟩ = some (.slice (some ⟨B0, o0, none⟩) i cp0) ∧ w'.cell? ⟨B0, o0 + k, none⟩ = some (.int .u8 ((fnL bss 0 k).toNat : Int))) (by kernel_rfl) (S0.out) (fun hHeld => ?_)
            generalize wr.drew = wd at *
            refine wpAnyH_take (i := 0) (v := ?vd0) (oi := ?od0) ?hd0 (by kernel_rfl) (by kernel_rfl) (by kernel_rfl) (fun _ _ _ h => h) (Or.inl ⟨?wd0, ?yd0⟩) hHeld ?rd0
            case hd0 => simp only [List.getElem?_toArray, List.getElem?_cons_zero, List.getElem?_cons_succ]; rfl
            case wd0 => rfl
            case yd0 => intro w hSw; (try dsimp only at hSw); go_simp; (try with_reducible rfl)
            simp only [Act.put, List.setIfInBounds_toArray, List.set_cons_zero, List.set_cons_succ]
            refine wpAnyH_take (i := 1) (v := ?vd1) (oi := ?od1) ?hd1 (by kernel_rfl) (by kernel_rfl) (by kernel_rfl) (fun _ _ _ h => h) (Or.inl ⟨?wd1, ?yd1⟩) hHeld ?rd1
            case hd1 => simp only [List.getElem?_toArray, List.getElem?_cons_zero, List.getElem?_cons_succ]; rfl
            case wd1 => rfl
            case yd1 => intro w hSw; (try dsimp only at hSw); go_simp; (try with_reducible rfl)
            simp only [Act.put, List.setIfInBounds_toArray, List.set_cons_zero, List.set_cons_succ]
            refine wpAnyH_take (i := 2) (v := ?vd2) (oi := ?od2) ?hd2 (by kernel_rfl) (by kernel_rfl) (by kernel_rfl) (fun _ _ _ h => h) (Or.inl ⟨?wd2, ?yd2⟩) hHeld ?rd2
            case hd2 => simp only [List.getElem?_toArray, List.getElem?_cons_zero, List.getElem?_cons_succ]; rfl
            case wd2 => rfl
            case yd2 => intro w hSw; (try dsimp only at hSw); go_simp; (try with_reducible rfl)
            simp only [Act.put, List.setIfInBounds_toArray, List.set_cons_zero, List.set_cons_succ]
            refine wpAnyH_take (i := 3) (v := ?vd3) (oi := ?od3) ?hd3 (by kernel_rfl) (by kernel_rfl) (by kernel_rfl) (fun _ _ _ h => h) (Or.inl ⟨?wd3, ?yd3⟩) hHeld ?rd3
            case hd3 => simp only [List.getElem?_toArray, List.getElem?_cons_zero, List.getElem?_cons_succ]; rfl
            case wd3 => rfl
            case yd3 => intro w hSw; (try dsimp only at hSw); go_simp; (try with_reducible rfl)
            simp only [Act.put, List.setIfInBounds_toArray, List.set_cons_zero, List.set_cons_succ]
            refine wpAnyH_take (i := 4) (v := ?vd4) (oi := ?od4) ?hd4 (by kernel_rfl) (by kernel_rfl) (by kernel_rfl) (fun _ _ _ h => h) (Or.inl ⟨?wd4, ?yd4⟩) hHeld ?rd4
            case hd4 => simp only [List.getElem?_toArray, List.getElem?_cons_zero, List.getElem?_cons_succ]; rfl
            case wd4 => rfl
            case yd4 => intro w hSw; (try dsimp only at hSw); go_simp; (try with_reducible rfl)
            simp only [Act.put, List.setIfInBounds_toArray, List.set_cons_zero, List.set_cons_succ]
            refine wpAnyH_take (i := 5) (v := ?vd5) (oi := ?od5) ?hd5 (by kernel_rfl) (by kernel_rfl) (by kernel_rfl) (fun _ _ _ h => h) (Or.inl ⟨?wd5, ?yd5⟩) hHeld ?rd5
            case hd5 => simp only [List.getElem?_toArray, List.getElem?_cons_zero, List.getElem?_cons_succ]; rfl
            case wd5 => rfl
            case yd5 => intro w hSw; (try dsimp only at hSw); go_simp; (try with_reducible rfl)
            simp only [Act.put, List.setIfInBounds_toArray, List.set_cons_zero, List.set_cons_succ]
            refine wpAnyH_take (i := 6) (v := ?vd6) (oi := ?od6) ?hd6 (by kernel_rfl) (by kernel_rfl) (by kernel_rfl) (fun _ _ _ h => h) (Or.inl ⟨?wd6, ?yd6⟩) hHeld ?rd6
            case hd6 => simp only [List.getElem?_toArray, List.getElem?_cons_zero, List.getElem?_cons_succ]; rfl
            case wd6 => rfl
            case yd6 => intro w hSw; (try dsimp only at hSw); go_simp; (try with_reducible rfl)
            simp only [Act.put, List.setIfInBounds_toArray, List.set_cons_zero, List.set_cons_succ]
            refine wpAnyH_take (i := 7) (v := ?vd7) (oi := ?od7) ?hd7 (by kernel_rfl) (by kernel_rfl) (by kernel_rfl) (fun _ _ _ h => h) (Or.inl ⟨?wd7, ?yd7⟩) hHeld ?rd7
            case hd7 => simp only [List.getElem?_toArray, List.getElem?_cons_zero, List.getElem?_cons_succ]; rfl
            case wd7 => rfl
            case yd7 => intro w hSw; (try dsimp only at hSw); go_simp; (try with_reducible rfl)
            simp only [Act.put, List.setIfInBounds_toArray, List.set_cons_zero, List.set_cons_succ]
            refine wpAnyH_ready (rs := [8]) (by kernel_rfl) (by simp) ?_
            refine AllReadyH.cons (o := ?od8) ?hd8 (fun K hK => ?sd8) AllReadyH.nil
            case hd8 => simp only [List.getElem?_toArray, List.getElem?_cons_zero, List.getElem?_cons_succ]; rfl
            go_simp
            refine HIH2.out.mono ?_
            rintro e w7 ⟨rfl, k7⟩
            rw [HDC.out]
            have s7 := And.intro (k7.cell S0.out.1 fun f => f) (k7.cell S0.out.2 fun f => f)
            go_wp2_with fail
            refine hK.out _ _ (s7) (fun hHeld => ?_)
            clear hK K
            try simp only [Act.put, List.setIfInBounds_toArray, List.set_cons_zero, List.set_cons_succ]
            refine wpAnyH_ready (rs := [9]) (by kernel_rfl) (by simp) ?_
            refine AllReadyH.cons (o := ?od9) ?hd9 (fun K hK => ?sd9) AllReadyH.nil
            case hd9 => simp only [List.getElem?_toArray, List.getElem?_cons_zero, List.getElem?_cons_succ]; rfl
            go_simp
            refine (refmulU_any (fnL bss 0 k) (detF n3 (minF (fnL bss) k)) _).mono ?_
            rintro e w8 ⟨rfl, rfl⟩
            go_wp2_with fail
            refine hK.out _ _ (s7) (fun hHeld => ?_)
            clear hK K
            try simp only [Act.put, List.setIfInBounds_toArray, List.set_cons_zero, List.set_cons_succ]
            refine wpAnyH_take (i := 10) (v := ?vd10) (oi := ?od10) ?hd10 (by kernel_rfl) (by kernel_rfl) (by kernel_rfl) (fun _ _ _ h => h) (Or.inl ⟨?wd10, ?yd10⟩) hHeld ?rd10
            case hd10 => simp only [List.getElem?_toArray, List.getElem?_cons_zero, List.getElem?_cons_succ]; rfl
            case wd10 => rfl
            case yd10 => intro w hSw; (try dsimp only at hSw); go_simp; (try with_reducible rfl)
            simp only [Act.put, List.setIfInBounds_toArray, List.set_cons_zero, List.set_cons_succ]
            refine wpAnyH_take (i := 11) (v := ?vd11) (oi := ?od11) ?hd11 (by kernel_rfl) (by kernel_rfl) (by kernel_rfl) (fun _ _ _ h => h) (Or.inl ⟨?wd11, ?yd11⟩) hHeld ?rd11
            case hd11 => simp only [List.getElem?_toArray, List.getElem?_cons_zero, List.getElem?_cons_succ]; rfl
            case wd11 => rfl
            case yd11 => intro w hSw; (try dsimp only at hSw); go_simp; (try with_reducible rfl)
            simp only [Act.put, List.setIfInBounds_toArray, List.set_cons_zero, List.set_cons_succ]
            refine wpAnyH_done (by kernel_rfl) ?_ _
            refine NoPanic.normal ?_
            go_wp2_with fail
            go_round
            case rel => exact ⟨k + 1, by omega, by rw [hstep.out]; rfl, by go_num, kd.trans' k7⟩
            case measure => simp [intOf]; omega
    · obtain rfl : k = m0 := by omega
      go_wp2_with fail
      go_ret
      refine ⟨ret_u8 ?_, hkw⟩
      rw [HNM.out]
      rfl

theorem rdet_any : ∀ (n : Nat), n ≤ 9 → ∀ {w : World} {A : Option Addr} {cp : Nat} {bss : List (List UInt8)}, Rwc w A n bss → (∀ (j : Nat) bs, bss[j]? = some bs → bs.length = n) → Calls Try.prog 20 #[.slice A n cp] w (DetPost w n (fnL bss))
  | 0, _, _, A, cp, bss, _, _ => rdet_zero A cp _
  | m + 1, hn, _, _, _, _, h, hsq => rdet_succ rfl hn (fun _ _ _ _ h hsq => rdet_any m (by omega) h hsq) h hsq
end Go.Proofs.Ytcjenpkbfahiaaa
