/- Package vand's withZero and Through, each as a contract over memory. -/
import Derived.Test.YtllcmblkjcppnaaVp
namespace Go.Proofs.Ytllcmblkjcppnaa
open Go.RowKit
set_option linter.unusedVariables false

/-- One zero more. -/
def wzF (m : Nat) (s : Nat → UInt8) (x : UInt8) (k : Nat) : UInt8 := (if k = 0 then 0 else s (k - 1)) ^^^ (if k < m then um (s k) x else 0)
/-- So many are done. -/
def wzP (m : Nat) (s : Nat → UInt8) (x : UInt8) (k j : Nat) : UInt8 := if j < k then wzF m s x j else if j = k then (if k = 0 then 0 else s (k - 1)) else 0
theorem wzP_at (m : Nat) (s : Nat → UInt8) (x : UInt8) (k : Nat) : wzP m s x k k = if k = 0 then 0 else s (k - 1) := by
  unfold wzP
  rw [if_neg (by omega), if_pos rfl]
theorem wzP_step {m : Nat} (s : Nat → UInt8) (x : UInt8) {k : Nat} (hk : k < m) (j : Nat) : upd (upd (wzP m s x k) k (ux (wzP m s x k k) (um (s k) x))) (k + 1) (s k) j = wzP m s x (k + 1) j := by
  rw [wzP_at]
  unfold upd
  by_cases e1 : j = k + 1
  · rw [if_pos e1]
    subst e1
    rw [wzP_at, if_neg (by omega)]
    rfl
  · rw [if_neg e1]
    by_cases e2 : j = k
    · subst e2
      rw [if_pos rfl]
      unfold wzP
      rw [if_pos (show j < j + 1 by omega)]
      unfold wzF
      rw [if_pos hk]
      rfl
    · rw [if_neg e2]
      unfold wzP
      by_cases e3 : j < k
      · rw [if_pos e3, if_pos (by omega)]
      · rw [if_neg e3, if_neg e2, if_neg (by omega), if_neg e1]
theorem wzP_all {m j : Nat} (s : Nat → UInt8) (x : UInt8) (hj : j < m + 1) : wzP m s x m j = wzF m s x j := by
  unfold wzP
  by_cases e : j < m
  · rw [if_pos e]
  · obtain rfl : j = m := by omega
    rw [if_neg e, if_pos rfl]
    unfold wzF
    rw [if_neg e, ux_zero]
theorem wzF_zF (p : Nat → UInt8) (i : Nat) (j : Nat) (hj : j < i + 1 + 1) : wzF (i + 1) (zF p i) (p i) j = zF p (i + 1) j := by
  unfold wzF
  rw [zF]
  by_cases e : j < i + 1
  · rw [if_pos e]
  · rw [if_neg e, zF_far p i j (by omega), zero_um]

set_option maxHeartbeats 2000000 in
theorem withzero_any {w : World} {A : Option Addr} {m c : Nat} {s : Nat → UInt8} (h : Bts w (.slice A m c) (rowL m s)) (hm : m ≤ 900) (x : UInt8) :
    Calls Try.prog 36 #[.slice A m c, .int .u8 (x.toNat : Int)] w (OwnPost w (rowL (m + 1) (wzF m s x))) := by
  obtain ⟨L, hL⟩ : ∃ L, L = m + 1 := ⟨_, rfl⟩
  have hmk := fun w => make_bytes w L ((m : Int) + 1) (by omega) (by omega)
  have hst := row_new w L (by omega)
  have hk0 : Kp No w (w.alloc (.cells (zc L) 5)) := Kp.alloc No _ _
  obtain ⟨g, hg⟩ : ∃ g, g = w.heap.size := ⟨_, rfl⟩
  have hmL : m < L := by omega
  have hL2 : L ≤ 1000 := by omega
  have HL := hide hL
  rw [← hL]
  clear hL
  go_enter Try.func36, Try.ntmps36
  go_wp2_with fail
  rw [← hg] at hst ⊢
  have HG := hide hg
  clear hg
  go_loopw [14] (fun i wr => ∃ k : Nat, k ≤ m ∧ i = .int .i64 (k : Int) ∧ RowAt wr g g L L (wzP m s x k) ∧ Kp No w wr) (fun i _ => m - (intOf i).toNat)
  case atStart => exact ⟨0, Nat.zero_le _, rfl, hst.eq fun k _ => (by simp [wzP]), hk0⟩
  case round =>
    obtain ⟨k, hk, rfl, hR, hkw⟩ := hrel
    by_cases hlt : k < m
    · have hkL : k < L := by omega
      have hk1L : k + 1 < L := by omega
      have hy := hR.cell hkL
      obtain ⟨B, off, rfl, hz⟩ := (h.no hkw).cell hlt
      have HS := hide (wzP_step s x hlt)
      obtain ⟨a, ha⟩ : ∃ a, a = wzP m s x k k := ⟨_, rfl⟩
      rw [← ha] at hy HS
      clear ha
      go_wp2_with fail
      refine wp_region_still_tail 11 (by kernel_rfl) (by kernel_rfl) ?_
      simp only [List.take_succ_cons, List.take_zero, List.drop_succ_cons, List.drop_zero]
      repeat still_step
      still_call ((mulU_any (s k) x _).mono fun _ _ ⟨he, hw⟩ => ⟨he, hw.symm⟩)
      repeat still_step
      still_call ((addU_any a (um (s k) x) _).mono fun _ _ ⟨he, hw⟩ => ⟨he, hw.symm⟩)
      repeat still_step
      refine wpStill_nil ?_
      change wpList _ _ _ _ _ wr.drew
      generalize hgen : wr.drew = w2
      have hs2 : Sm wr w2 := ⟨1, hgen.symm⟩
      clear hgen
      have hR2 := hR.no hs2.kp
      have hy2 := hR2.cell hkL
      have hf2 := hR2.frozen k
      have hR3 := hR2.set hkL (ux a (um (s k) x)) _ rfl
      have hy3 := hR2.cell hk1L
      have hf3 := hR2.frozen (k + 1)
      have hR4 := hR3.set hk1L (s k) _ rfl
      have HR4 := hide (hR4.eq fun j _ => HS.out j)
      clear hR4 hR3
      go_wp2_with fail
      go_round
      case rel => exact ⟨k + 1, by omega, by go_num, HR4.out, ((hkw.trans' hs2.kp).trans ((RowAt.kpset _ _ _ _).mono fun q hq => .inr (by rw [hq, HG.out]; exact Nat.le_refl _))).trans ((RowAt.kpset _ _ _ _).mono fun q hq => .inr (by rw [hq, HG.out]; exact Nat.le_refl _))⟩
      case measure => simp [intOf]; omega
    · obtain rfl : k = m := by omega
      go_wp2_with fail
      go_ret
      refine ⟨_, _, _, rfl, ?_, hkw⟩
      rw [← HG.out]
      exact hR.eq fun j hj => wzP_all s x (by have := HL.out; omega)

theorem divU_any (a b : UInt8) (w : World) (h : b ≠ 0) : Calls Try.prog 35 #[.int .u8 (a.toNat : Int), .int .u8 (b.toNat : Int)] w fun e w' => e = .returned (.tuple #[.int .u8 ((um a (ui b)).toNat : Int), .int .i64 0]) ∧ w = w' := by
  rw [um_nat, ui_nat]
  exact div_any a.toNat b.toNat w (u8_lt a) (u8_lt b) (Nat.pos_of_ne_zero (u8_ne h))

/-- What the points' loop keeps: the coefficients through the first i points, and the polynomial that is nought there. -/
structure ThI (w : World) (g n : Nat) (p v : Nat → UInt8) (i : Nat) (z : Value) (wr : World) : Prop where
  co : RowAt wr w.heap.size g n n (nF n p v i)
  ze : Own wr w.heap.size 5 z (rowL (i + 1) (zF p i))
  ap : z.ownBlock ≠ some g
  kp : Kp No w wr
theorem one_row (w : World) (base : Nat) (hb : base ≤ w.heap.size) (p : Nat → UInt8) : Own (w.alloc (.cells #[bv 1] 5)) base 5 (.slice (some ⟨w.heap.size, 0, none⟩) 1 1) (rowL (0 + 1) (zF p 0)) :=
  Own.mk (heap_alloc_new w _) (by rw [rowL_len]) (Nat.le_refl _) (by simp only [maxLen]; omega) rfl hb fun k x hk => by
    have hkl : k < 1 := by have := (List.getElem?_eq_some_iff.1 hk).1; rwa [rowL_len] at this
    obtain rfl : k = 0 := by omega
    rw [rowL_get _ (by omega)] at hk
    injection hk with hk
    subst hk
    rfl

section
variable {w : World} {A A' : Option Addr} {n n' c c' : Nat} {bs vs : List UInt8}
theorem through_no (h : Bts w (.slice A n c) bs) (hbad : ¬ (1 ≤ n ∧ n ≤ 64 ∧ n' = n ∧ Uq n (lg bs))) : Calls Try.prog 18 #[.slice A n c, .slice A' n' c'] w (ArgPostB w) := by
  by_cases hf : 1 ≤ n ∧ n ≤ 64 ∧ Uq n (lg bs)
  · have hq := fit_yes h hf.1 hf.2.1 hf.2.2
    have t0 : ((n' : Int) != (n : Int)) = true := by
      have : n' ≠ n := fun e => hbad ⟨hf.1, hf.2.1, e, hf.2.2⟩
      simp
      omega
    clear hbad hf
    go_enter Try.func18, Try.ntmps18
    go_wp2_with fail
    refine hq.mono ?_
    rintro e w1 ⟨rfl, k1⟩
    go_wp2_with fail
    go_ret2
    exact ⟨rfl, k1⟩
  · have hq := fit_no h hf
    clear hbad hf
    go_enter Try.func18, Try.ntmps18
    go_wp2_with fail
    refine hq.mono ?_
    rintro e w1 ⟨rfl, k1⟩
    go_wp2_with fail
    go_ret2
    exact ⟨rfl, k1⟩

set_option maxHeartbeats 4000000 in
set_option maxRecDepth 100000 in
theorem through_yes (h : Bts w (.slice A n c) bs) (h' : Bts w (.slice A' n c') vs) (n1 : 1 ≤ n) (n2 : n ≤ 64) (hU : Uq n (lg bs)) : Calls Try.prog 18 #[.slice A n c, .slice A' n c'] w (OwnPostB w (rowL n (nF n (lg bs) (lg vs) n))) := by
  have hq := fit_yes h n1 n2 hU
  have hmk := fun w => make_bytes w n (n : Int) rfl (by omega)
  have HU := hide hU
  clear hU
  go_enter Try.func18, Try.ntmps18
  go_wp2_with fail
  refine hq.mono ?_
  rintro e w1 ⟨rfl, k1⟩
  have hst := row_new w1 n (by omega)
  have hk0 : Kp No w1 (w1.alloc (.cells (zc n) 5)) := Kp.alloc No _ _
  have hks := k1.size
  have hone := one_row (w1.alloc (.cells (zc n) 5)) w.heap.size (by simp; omega) (lg bs)
  have hsz : (w1.alloc (.cells (zc n) 5)).heap.size = w1.heap.size + 1 := by simp
  rw [hsz] at hone
  obtain ⟨g, hg⟩ : ∃ g, g = w1.heap.size := ⟨_, rfl⟩
  have hI0 : ThI w g n (lg bs) (lg vs) 0 (.slice (some ⟨g + 1, 0, none⟩) 1 1) ((w1.alloc (.cells (zc n) 5)).alloc (.cells #[bv 1] 5)) := by
    rw [hg]
    exact ⟨(hst.no (Kp.alloc No _ _)).rebase fun q hq => (by have := hst.ge q hq; omega), hone, (by simp [Value.ownBlock]), (k1.trans' hk0).trans' (Kp.alloc No _ _)⟩
  have HG : Hid (w.heap.size ≤ g) := by show w.heap.size ≤ g; omega
  clear hst hk0 hone hsz
  go_wp2_with fail
  rw [← hg]
  clear hg
  go_loopw [7, 31] (fun z i wr => ∃ (k : Nat) (A7 : Option Addr) (m7 c7 : Nat), k ≤ n ∧ i = .int .i64 (k : Int) ∧ z = .slice A7 m7 c7 ∧ ThI w g n (lg bs) (lg vs) k (.slice A7 m7 c7) wr) (fun _ i _ => n - (intOf i).toNat)
  case atStart => exact ⟨0, some ⟨g + 1, 0, none⟩, 1, 1, Nat.zero_le _, rfl, rfl, hI0⟩
  case round =>
    obtain ⟨k, A7, m7, c7, hk, rfl, rfl, hI⟩ := hrel
    have hm7 := hI.ze.len
    rw [rowL_len] at hm7
    by_cases hlt : k < n
    · obtain ⟨B1, o1, y, rfl, hy, x1⟩ := (h.no hI.kp).at_ hlt
      obtain ⟨B2, o2, u, rfl, hu, x2⟩ := (h'.no hI.kp).at_ hlt
      have HY : Hid (lg bs k = y) := lg_of hy
      have HV : Hid (lg vs k = u) := lg_of hu
      have hm72 : m7 ≤ n := by omega
      have HM7 := hide hm7
      have hvq : ∀ q, Calls Try.prog 16 #[.slice (some ⟨g, 0, none⟩) n n, .int .u8 (y.toNat : Int)] (wr.drewN q) fun e w'' => e = .returned (.int .u8 ((pv (lg (rowL n (nF n (lg bs) (lg vs) k))) y n).toNat : Int)) ∧ ∃ k, w'' = wr.drewN k :=
        fun q => Calls.quiet_of (value_any (hI.co.no (Sm.drewN wr q).kp).bts (by omega) y)
      have hpv : Hid (pv (lg (rowL n (nF n (lg bs) (lg vs) k))) y n = pv (nF n (lg bs) (lg vs) k) y n) := pv_congr fun j hj => lg_rowL _ hj
      have hzv : Hid (pv (lg (rowL (k + 1) (zF (lg bs) k))) y m7 = zv (lg bs) y k) := by
        show pv (lg (rowL (k + 1) (zF (lg bs) k))) y m7 = pv (zF (lg bs) k) y (k + 1)
        rw [hm7]
        exact pv_congr fun j hj => lg_rowL _ hj
      have hzne : Hid (zv (lg bs) y k ≠ 0) := by
        show zv (lg bs) y k ≠ 0
        rw [← HY.out]
        exact zv_ne _ _ _ (HU.out.ne hlt)
      have hfac : Hid (um (ux u (pv (nF n (lg bs) (lg vs) k) y n)) (ui (zv (lg bs) y k)) = nfac (lg bs) (lg vs) n (nF n (lg bs) (lg vs) k) k) := by
        show um (ux u (pv (nF n (lg bs) (lg vs) k) y n)) (ui (zv (lg bs) y k)) = nfac (lg bs) (lg vs) n (nF n (lg bs) (lg vs) k) k
        unfold nfac
        rw [HY.out, HV.out]
        rfl
      rw [hpv.out] at hvq
      have hzb := hI.ze
      clear hy hu hpv hm7
      go_wp2_with fail
      go_quiet ((first | (go_at_call 16; exact hvq _) | (go_at_call 33; exact addU_q _ _ u (pv (nF n (lg bs) (lg vs) k) y n))))
      generalize hgen : World.drewN wr _ = w2
      have hs2 : Sm wr w2 := ⟨_, hgen.symm⟩
      clear hgen hvq
      go_wp2_with fail
      refine (value_any (hzb.no hs2.kp).bts (by omega) y).mono ?_
      rintro e w3 ⟨rfl, hs3⟩
      rw [hzv.out]
      go_wp2_with fail
      refine (divU_any _ _ _ hzne.out).mono ?_
      rintro e w4 ⟨rfl, rfl⟩
      rw [hfac.out]
      have hI3 : ThI w g n (lg bs) (lg vs) k (.slice A7 m7 c7) w3 := ⟨hI.co.no (hs2.trans hs3).kp, hI.ze.no (hs2.trans hs3).kp, hI.ap, hI.kp.trans' (hs2.trans hs3).kp⟩
      clear hI hzb hzv hzne hfac x1 x2 HV
      obtain ⟨fc, hfc⟩ : ∃ fc, fc = nfac (lg bs) (lg vs) n (nF n (lg bs) (lg vs) k) k := ⟨_, rfl⟩
      rw [← hfc]
      have HFC := hide hfc
      clear hfc
      go_wp2_with fail
      go_loopw [54] (fun i wr => ∃ q : Nat, q ≤ m7 ∧ i = .int .i64 (q : Int) ∧ RowAt wr w.heap.size g n n (upS (nF n (lg bs) (lg vs) (k + 1)) (nF n (lg bs) (lg vs) k) q) ∧ Own wr w.heap.size 5 (.slice A7 m7 c7) (rowL (k + 1) (zF (lg bs) k)) ∧ Kp No w wr) (fun i _ => m7 - (intOf i).toNat)
      case atStart => exact ⟨0, Nat.zero_le _, rfl, hI3.co.eq fun j _ => (by simp [upS]), hI3.ze, hI3.kp⟩
      case round =>
        obtain ⟨q, hq, rfl, hR, hZ, hkw⟩ := hrel
        by_cases hlq : q < m7
        · have hqn : q < n := by omega
          have hy := hR.cell hqn
          have hstep : Hid (nF n (lg bs) (lg vs) (k + 1) q = ux (nF n (lg bs) (lg vs) k q) (um fc (zF (lg bs) k q))) := by
            show nF n (lg bs) (lg vs) (k + 1) q = _
            rw [nF, ← HFC.out]
            rfl
          have HST := hide (upS_step (nF n (lg bs) (lg vs) (k + 1)) (nF n (lg bs) (lg vs) k) q)
          rw [show upS (nF n (lg bs) (lg vs) (k + 1)) (nF n (lg bs) (lg vs) k) q q = nF n (lg bs) (lg vs) k q by unfold upS; rw [if_neg (Nat.lt_irrefl q)]] at hy
          obtain ⟨B7, o7, zq, rfl, hzq, hz⟩ := hZ.bts.at_ hlq
          have hzq2 : zF (lg bs) k q = zq := by
            rw [rowL_get _ (by have := HM7.out; omega)] at hzq
            injection hzq
          rw [hzq2] at hstep
          clear hzq hzq2
          obtain ⟨a, ha⟩ : ∃ a, a = nF n (lg bs) (lg vs) k q := ⟨_, rfl⟩
          rw [← ha] at hy hstep
          clear ha
          go_wp2_with fail
          refine wp_region_still_tail 11 (by kernel_rfl) (by kernel_rfl) ?_
          simp only [List.take_succ_cons, List.take_zero, List.drop_succ_cons, List.drop_zero]
          repeat still_step
          still_call ((mulU_any fc zq _).mono fun _ _ ⟨he, hw⟩ => ⟨he, hw.symm⟩)
          repeat still_step
          still_call ((addU_any a (um fc zq) _).mono fun _ _ ⟨he, hw⟩ => ⟨he, hw.symm⟩)
          repeat still_step
          refine wpStill_nil ?_
          change wpList _ _ _ _ _ wr.drew
          generalize hgen : wr.drew = w5
          have hs5 : Sm wr w5 := ⟨1, hgen.symm⟩
          clear hgen
          have hR2 := hR.no hs5.kp
          have hy2 := hR2.cell hqn
          have hf2 := hR2.frozen q
          have HR3 := hide (hR2.set hqn (nF n (lg bs) (lg vs) (k + 1) q) (bv (ux a (um fc zq))) (by rw [hstep.out]))
          go_wp2_with fail
          go_round
          case rel =>
            refine ⟨q + 1, by omega, by go_num, HR3.out.eq fun j _ => HST.out j, (hZ.no hs5.kp).keep (RowAt.kpset _ _ _ _) fun x hx e => ?_, (hkw.trans' hs5.kp).trans ((RowAt.kpset _ _ _ _).mono fun x hx => .inr (by rw [hx]; exact HG.out))⟩
            exact hI3.ap (by rw [hx, e])
          case measure => simp [intOf]; omega
        · obtain rfl : q = m7 := by omega
          have HR2 : Hid (RowAt wr w.heap.size g n n (nF n (lg bs) (lg vs) (k + 1))) := hR.eq fun j hj => by
            unfold upS
            by_cases e : j < q
            · rw [if_pos e]
            · rw [if_neg e, nF, zF_far _ _ _ (by have := HM7.out; omega), um_zero, ux_zero]
          have hwz : OwnPost wr (rowL (q + 1) (wzF q (zF (lg bs) k) y)) = OwnPost wr (rowL (k + 1 + 1) (zF (lg bs) (k + 1))) := by
            congr 1
            rw [HM7.out, ← HY.out]
            exact List.map_congr_left fun j hj => wzF_zF _ _ _ (List.mem_range.1 hj)
          have hwc := withzero_any (m := q) (s := zF (lg bs) k) (by have := hZ.bts; rw [← HM7.out] at this; exact this) (by omega) y
          rw [hwz] at hwc
          clear hwz
          have hgl : g < wr.heap.size := by
            have := hR.lt g rfl
            exact this
          have hksz := hkw.size
          go_wp2_with fail
          refine hwc.mono ?_
          rintro e w6 ⟨A8, m8, c8, rfl, ho8, k8⟩
          go_wp2_with fail
          go_round
          case rel => exact ⟨k + 1, A8, m8, c8, by omega, by go_num, rfl, HR2.out.no k8, ho8.rebase fun x hx => (by have := ho8.ge x hx; omega), fun e => (by have := ho8.ge g e; omega), hkw.trans' k8⟩
          case measure => simp [intOf]; omega
    · obtain rfl : k = n := by omega
      go_wp2_with fail
      go_ret2
      exact ⟨_, _, _, rfl, hI.co, hI.kp⟩
end
end Go.Proofs.Ytllcmblkjcppnaa
