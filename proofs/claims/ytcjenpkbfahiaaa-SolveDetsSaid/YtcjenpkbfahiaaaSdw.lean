/- SolveDets: every determinant, that it isn't nought just if there is an inverse, and that that of a product is the product. -/
import Derived.Test.YtcjenpkbfahiaaaSew
import Derived.Test.YtcjenpkbfahiaaaRd4
import Derived.Test.YtcjenpkbfahiaaaMq
namespace Go.Proofs.Ytcjenpkbfahiaaa
open Go.RowKit
set_option linter.unusedVariables false

/-- What Det returns, and no error. -/
def DetT (w : World) (n : Nat) (f : Nat → Nat → UInt8) (e : Ending) (w1 : World) : Prop := e = .returned (.tuple #[.int .u8 ((detF n f).toNat : Int), .int .i64 0]) ∧ Kp No w w1
section
variable {w : World} {m m' : MB} {n c : Nat} {a b : Nat → Nat → UInt8}
theorem sdet_F (h : MatAt w m n n a) : Calls Try.prog 19 #[m.ptr] w (DetT w n a) := by
  have := sdet_yes h
  rw [detP_eq] at this
  exact this
theorem det_rank (n : Nat) (a : Nat → Nat → UInt8) (h : (redS n a n).rk = n) : ((detF n a).toNat : Int) != 0 := by
  rw [← detP_eq]
  exact ux_ne0 ((detP_ne n a).2 h)
theorem det_norank (n : Nat) (a : Nat → Nat → UInt8) (h : (redS n a n).rk < n) : (((detF n a).toNat : Int) != 0) = false := by
  rw [← detP_eq]
  unfold detP
  rw [if_pos h]
  rfl
end
theorem rect_len {bss : List (List UInt8)} {n c : Nat} (h : Rect bss n c) : ∀ (j : Nat) bs, bss[j]? = some bs → bs.length = c := h.row

/-- One element, as rows. -/
theorem rws_one (w : World) (x : UInt8) (v : Value) (hv : v = bv x) : Rws ((w.alloc (.cells #[v] 5)).alloc (.cells #[.slice (some ⟨w.heap.size, 0, none⟩) 1 1] 36)) (some ⟨w.heap.size + 1, 0, none⟩) 1 [[x]] := by
  refine ⟨rfl, fun j bs hj => ?_⟩
  match j, hj with
  | 0, hj =>
    simp at hj
    subst hj
    exact ⟨_, 0, .slice (some ⟨w.heap.size, 0, none⟩) 1 1, rfl, by simp, (bts_new w x v hv).no (Kp.alloc No _ _)⟩
  | j + 1, hj => simp at hj
theorem rect_one (x : UInt8) : Rect [[x]] 1 1 := ⟨rfl, fun j bs hj => by
  match j, hj with
  | 0, hj => simp at hj; subst hj; rfl
  | j + 1, hj => simp at hj, by omega, by omega, by omega, by omega⟩
theorem prod_one (x y : UInt8) : mulF 1 (fnL [[x]]) (fnL [[y]]) 0 0 = um x y := by
  show 0 ^^^ um x y = um x y
  exact zero_ux _
set_option maxHeartbeats 1000000 in
theorem product_yes (p a b : UInt8) (w : World) (h : um a b = p) : Calls Try.prog 22 #[.int .u8 (p.toNat : Int), .int .u8 (a.toNat : Int), .int .u8 (b.toNat : Int)] w fun e w' => e = .returned (.bool true) ∧ Kp No w w' := by
  have h1 := (rws_one w a (.int .u8 (a.toNat : Int)) rfl).no ((Kp.alloc No _ (.cells #[.int .u8 (b.toNat : Int)] 5)).trans' (Kp.alloc No _ (.cells #[.slice (some ⟨w.heap.size + 2, 0, none⟩) 1 1] 36)))
  have h2 := rws_one ((w.alloc (.cells #[.int .u8 (a.toNat : Int)] 5)).alloc (.cells #[.slice (some ⟨w.heap.size, 0, none⟩) 1 1] 36)) b (.int .u8 (b.toNat : Int)) rfl
  have hsz : ((w.alloc (.cells #[.int .u8 (a.toNat : Int)] 5)).alloc (.cells #[.slice (some ⟨w.heap.size, 0, none⟩) 1 1] 36)).heap.size = w.heap.size + 2 := by simp
  rw [hsz] at h2
  have hm := rmul_any (cp := 1) (cp' := 1) h1 (rect_one a) h2 (rect_one b)
  have HM := hide hm
  have HP : Hid (mulF 1 (fnL [[a]]) (fnL [[b]]) 0 0 = p) := (prod_one a b).trans h
  have HK := hide (((((Kp.alloc No w (.cells #[.int .u8 (a.toNat : Int)] 5)).trans' (Kp.alloc No _ (.cells #[.slice (some ⟨w.heap.size, 0, none⟩) 1 1] 36))).trans' (Kp.alloc No _ (.cells #[.int .u8 (b.toNat : Int)] 5)))).trans' (Kp.alloc No _ (.cells #[.slice (some ⟨w.heap.size + 2, 0, none⟩) 1 1] 36)))
  clear h1 h2 hsz hm h
  go_enter Try.func22, Try.ntmps22
  go_wp2_with fail
  refine HM.out.mono ?_
  rintro e w1 ⟨A1, cp1, bl, rfl, hG, hk⟩
  obtain ⟨g, rfl, _, x1⟩ := hG.outer (j := 0) (by omega)
  have x2 := hG.cell (j := 0) (k := 0) (by omega) (by omega)
  rw [HP.out] at x2
  go_wp2_with fail
  go_ret
  exact ⟨rfl, HK.out.trans' hk⟩

section
variable {w : World} {A1 A2 : Option Addr} {n1 n2 p1 p2 : Nat} {l1 l2 : List (List UInt8)}
set_option maxHeartbeats 8000000 in
set_option maxRecDepth 100000 in
theorem dts_not1 (h1 : Rws w A1 n1 l1) (hS : ¬ Sml l1 n1 (len0 l1)) : Calls Try.prog 5 #[.slice A1 n1 p1, .slice A2 n2 p2] w (EBel w) := by
  have q1 := small4_no (cp := p1) h1 hS
  clear hS
  have k0 : Kp No w w := Kp.refl _ _
  go_enter Try.func5, Try.ntmps5
  go_wp2_with fail
  refine (q1).mono ?_
  rintro e w1 ⟨rfl, s1⟩
  have k1 := k0.trans' s1.kp
  go_wp2_with fail
  refine (awake4_any _).mono ?_
  rintro e w2 ⟨rfl, j2⟩
  have k2 := k1.trans' j2
  go_wp2_with fail
  go_ret
  exact ⟨rfl, k2.below0⟩
set_option maxHeartbeats 8000000 in
set_option maxRecDepth 100000 in
theorem dts_not2 {c1 : Nat} (h1 : Rws w A1 n1 l1) (hS1 : Sml l1 n1 c1) (h2 : Rws w A2 n2 l2) (hS : ¬ Sml l2 n2 (len0 l2)) : Calls Try.prog 5 #[.slice A1 n1 p1, .slice A2 n2 p2] w (EBel w) := by
  have q1 := small4_yes (cp := p1) h1 hS1
  have Q2 := hide fun w' (hk : Kp No w w') => small4_no (cp := p2) (h2.no hk) hS
  clear hS
  have k0 : Kp No w w := Kp.refl _ _
  go_enter Try.func5, Try.ntmps5
  go_wp2_with fail
  refine (q1).mono ?_
  rintro e w1 ⟨rfl, s1⟩
  have k1 := k0.trans' s1.kp
  go_wp2_with fail
  refine (Q2.out _ k1).mono ?_
  rintro e w2 ⟨rfl, s2⟩
  have k2 := k1.trans' s2.kp
  go_wp2_with fail
  refine (awake4_any _).mono ?_
  rintro e w3 ⟨rfl, j3⟩
  have k3 := k2.trans' j3
  go_wp2_with fail
  go_ret
  exact ⟨rfl, k3.below0⟩
set_option maxHeartbeats 8000000 in
set_option maxRecDepth 100000 in
theorem dts_big1 {c1 c2 : Nat} (h1 : Rws w A1 n1 l1) (hS1 : Sml l1 n1 c1) (h2 : Rws w A2 n2 l2) (hS2 : Sml l2 n2 c2) (hbig : 6 < n1) : Calls Try.prog 5 #[.slice A1 n1 p1, .slice A2 n2 p2] w (EBel w) := by
  have q1 := small4_yes (cp := p1) h1 hS1
  have Q2 := hide fun w' (hk : Kp No w w') => small4_yes (cp := p2) (h2.no hk) hS2
  have k0 : Kp No w w := Kp.refl _ _
  go_enter Try.func5, Try.ntmps5
  go_wp2_with fail
  refine (q1).mono ?_
  rintro e w1 ⟨rfl, s1⟩
  have k1 := k0.trans' s1.kp
  go_wp2_with fail
  refine (Q2.out _ k1).mono ?_
  rintro e w2 ⟨rfl, s2⟩
  have k2 := k1.trans' s2.kp
  go_wp2_with fail
  refine (awake4_any _).mono ?_
  rintro e w3 ⟨rfl, j3⟩
  have k3 := k2.trans' j3
  go_wp2_with fail
  go_ret
  exact ⟨rfl, k3.below0⟩
set_option maxHeartbeats 8000000 in
set_option maxRecDepth 100000 in
theorem dts_big2 {c1 c2 : Nat} (h1 : Rws w A1 n1 l1) (hS1 : Sml l1 n1 c1) (h2 : Rws w A2 n2 l2) (hS2 : Sml l2 n2 c2) (hsm : n1 ≤ 6) (hbig : 6 < n2) : Calls Try.prog 5 #[.slice A1 n1 p1, .slice A2 n2 p2] w (EBel w) := by
  have q1 := small4_yes (cp := p1) h1 hS1
  have Q2 := hide fun w' (hk : Kp No w w') => small4_yes (cp := p2) (h2.no hk) hS2
  have k0 : Kp No w w := Kp.refl _ _
  go_enter Try.func5, Try.ntmps5
  go_wp2_with fail
  refine (q1).mono ?_
  rintro e w1 ⟨rfl, s1⟩
  have k1 := k0.trans' s1.kp
  go_wp2_with fail
  refine (Q2.out _ k1).mono ?_
  rintro e w2 ⟨rfl, s2⟩
  have k2 := k1.trans' s2.kp
  go_wp2_with fail
  refine (awake4_any _).mono ?_
  rintro e w3 ⟨rfl, j3⟩
  have k3 := k2.trans' j3
  go_wp2_with fail
  go_ret
  exact ⟨rfl, k3.below0⟩
set_option maxHeartbeats 8000000 in
set_option maxRecDepth 100000 in
theorem dts_nsq {c1 c2 : Nat} (h1 : Rwc w A1 n1 l1) (hS1 : Sml l1 n1 c1) (h2 : Rwc w A2 n2 l2) (hS2 : Sml l2 n2 c2) (hs1 : n1 ≤ 6) (hs2 : n2 ≤ 6) (hne : n1 ≠ c1) : Calls Try.prog 5 #[.slice A1 n1 p1, .slice A2 n2 p2] w (EBel w) := by
  have q1 := small4_yes (cp := p1) h1.rws hS1
  have Q2 := hide fun w' (hk : Kp No w w') => small4_yes (cp := p2) (h2.rws.no hk) hS2
  have T1 := hide fun w' (hk : Kp No w w') => of_yes (cp := p1) (h1.rws.no hk) hS1.rect
  have T2 := hide fun w' (hk : Kp No w w') => of_yes (cp := p2) (h2.rws.no hk) hS2.rect
  have r1 := hS1.rect.r1
  have b1 := hS2.rect.r1
  obtain ⟨B1, o1, A0, cp0, rfl, d1⟩ := h1.rws.head hS1.rect
  have D1 := hide fun w' (hk : Kp No w w') => hk.cell d1 fun f => f
  have t0 : ((n1 : Int) != (c1 : Int)) = true := by simp; omega
  have HN := hide hne
  clear d1 hne hS1 hS2
  have k0 : Kp No w w := Kp.refl _ _
  go_enter Try.func5, Try.ntmps5
  go_wp2_with fail
  refine (q1).mono ?_
  rintro e w1 ⟨rfl, s1⟩
  have k1 := k0.trans' s1.kp
  go_wp2_with fail
  refine (Q2.out _ k1).mono ?_
  rintro e w2 ⟨rfl, s2⟩
  have k2 := k1.trans' s2.kp
  go_wp2_with fail
  refine (T1.out _ k2).mono ?_
  rintro e w3 ⟨mx, rfl, X, _, _, j3⟩
  have k3 := k2.trans' j3
  go_wp2_with fail
  refine (T2.out _ k3).mono ?_
  rintro e w4 ⟨my, rfl, Y, _, _, j4⟩
  have k4 := k3.trans' j4
  have X := X.no j4
  go_wp2_with fail
  refine (sdet_no X HN.out).mono ?_
  rintro e w5 ⟨rfl, j5⟩
  have k5 := k4.trans' j5
  have X := X.no j5
  have Y := Y.no j5
  have d := D1.out _ k5
  go_wp2_with fail
  refine (awake4_any _).mono ?_
  rintro e w6 ⟨rfl, j6⟩
  have k6 := k5.trans' j6
  have X := X.no j6
  have Y := Y.no j6
  go_wp2_with fail
  go_ret
  exact ⟨rfl, k6.below0⟩
set_option maxHeartbeats 8000000 in
set_option maxRecDepth 100000 in
theorem dts_wh {c2 : Nat} (h1 : Rwc w A1 n1 l1) (hS1 : Sml l1 n1 n1) (h2 : Rwc w A2 n2 l2) (hS2 : Sml l2 n2 c2) (hs1 : n1 ≤ 6) (hs2 : n2 ≤ 6) (hrk : (redS n1 (fnL l1) n1).rk = n1) (hne : n2 ≠ n1) : Calls Try.prog 5 #[.slice A1 n1 p1, .slice A2 n2 p2] w (EBel w) := by
  have q1 := small4_yes (cp := p1) h1.rws hS1
  have Q2 := hide fun w' (hk : Kp No w w') => small4_yes (cp := p2) (h2.rws.no hk) hS2
  have T1 := hide fun w' (hk : Kp No w w') => of_yes (cp := p1) (h1.rws.no hk) hS1.rect
  have T2 := hide fun w' (hk : Kp No w w') => of_yes (cp := p2) (h2.rws.no hk) hS2.rect
  have r1 := hS1.rect.r1
  have b1 := hS2.rect.r1
  have E1 := hide fun w' (hk : Kp No w w') => rdet_any n1 (by omega) (cp := p1) (h1.no hk) (rect_len hS1.rect)
  have R1 := hide hS1.rect
  have R2 := hide hS2.rect
  have H1 := hide fun w' (hk : Kp No w w') => h1.rws.no hk
  have H2 := hide fun w' (hk : Kp No w w') => h2.rws.no hk
  obtain ⟨B1, o1, A0, cp0, rfl, d1⟩ := h1.rws.head hS1.rect
  have D1 := hide fun w' (hk : Kp No w w') => hk.cell d1 fun f => f
  obtain ⟨B2, o2, A0', cp0', rfl, d2⟩ := h2.rws.head hS2.rect
  have D2 := hide fun w' (hk : Kp No w w') => hk.cell d2 fun f => f
  have HRK := hide hrk
  have t1 := det_rank n1 (fnL l1) hrk
  have HN : Hid (n1 ≠ n2) := Ne.symm hne
  clear hne
  clear d1 d2 hrk hS1 hS2 h1 h2
  have k0 : Kp No w w := Kp.refl _ _
  go_enter Try.func5, Try.ntmps5
  go_wp2_with fail
  refine (q1).mono ?_
  rintro e w1 ⟨rfl, s1⟩
  have k1 := k0.trans' s1.kp
  go_wp2_with fail
  refine (Q2.out _ k1).mono ?_
  rintro e w2 ⟨rfl, s2⟩
  have k2 := k1.trans' s2.kp
  go_wp2_with fail
  refine (T1.out _ k2).mono ?_
  rintro e w3 ⟨mx, rfl, X, _, _, j3⟩
  have k3 := k2.trans' j3
  go_wp2_with fail
  refine (T2.out _ k3).mono ?_
  rintro e w4 ⟨my, rfl, Y, _, _, j4⟩
  have k4 := k3.trans' j4
  have X := X.no j4
  go_wp2_with fail
  refine (sdet_F X).mono ?_
  rintro e w5 ⟨rfl, j5⟩
  have k5 := k4.trans' j5
  have X := X.no j5
  have Y := Y.no j5
  have d := D1.out _ k5
  go_wp2_with fail
  refine (invert_whole X HRK.out).mono ?_
  rintro e w6 ⟨mi, rfl, _, _, _, j6⟩
  have k6 := k5.trans' j6
  have X := X.no j6
  have Y := Y.no j6
  go_wp2_with fail
  refine (E1.out _ k6).mono ?_
  rintro e w7 ⟨rfl, j7⟩
  have k7 := k6.trans' j7
  have X := X.no j7
  have Y := Y.no j7
  go_wp2_with fail
  refine (mul_no X Y HN.out).mono ?_
  rintro e w8 ⟨rfl, j8⟩
  have k8 := k7.trans' j8
  have X := X.no j8
  have Y := Y.no j8
  go_wp2_with fail
  refine (awake4_any _).mono ?_
  rintro e w9 ⟨rfl, j9⟩
  have k9 := k8.trans' j9
  have X := X.no j9
  have Y := Y.no j9
  go_wp2_with fail
  go_ret
  exact ⟨rfl, k9.below0⟩
set_option maxHeartbeats 8000000 in
set_option maxRecDepth 100000 in
theorem dts_ww {c2 : Nat} (h1 : Rwc w A1 n1 l1) (hS1 : Sml l1 n1 n1) (h2 : Rwc w A2 n1 l2) (hS2 : Sml l2 n1 c2) (hs1 : n1 ≤ 6) (hs2 : n1 ≤ 6) (hrk : (redS n1 (fnL l1) n1).rk = n1) (hne : n1 ≠ c2) : Calls Try.prog 5 #[.slice A1 n1 p1, .slice A2 n1 p2] w (EBel w) := by
  have q1 := small4_yes (cp := p1) h1.rws hS1
  have Q2 := hide fun w' (hk : Kp No w w') => small4_yes (cp := p2) (h2.rws.no hk) hS2
  have T1 := hide fun w' (hk : Kp No w w') => of_yes (cp := p1) (h1.rws.no hk) hS1.rect
  have T2 := hide fun w' (hk : Kp No w w') => of_yes (cp := p2) (h2.rws.no hk) hS2.rect
  have r1 := hS1.rect.r1
  have b1 := hS2.rect.r1
  have E1 := hide fun w' (hk : Kp No w w') => rdet_any n1 (by omega) (cp := p1) (h1.no hk) (rect_len hS1.rect)
  have R1 := hide hS1.rect
  have R2 := hide hS2.rect
  have H1 := hide fun w' (hk : Kp No w w') => h1.rws.no hk
  have H2 := hide fun w' (hk : Kp No w w') => h2.rws.no hk
  obtain ⟨B1, o1, A0, cp0, rfl, d1⟩ := h1.rws.head hS1.rect
  have D1 := hide fun w' (hk : Kp No w w') => hk.cell d1 fun f => f
  obtain ⟨B2, o2, A0', cp0', rfl, d2⟩ := h2.rws.head hS2.rect
  have D2 := hide fun w' (hk : Kp No w w') => hk.cell d2 fun f => f
  have HRK := hide hrk
  have t1 := det_rank n1 (fnL l1) hrk
  have t2 : ((n1 : Int) != (c2 : Int)) = true := by simp; omega
  clear hne
  clear d1 d2 hrk hS1 hS2 h1 h2
  have k0 : Kp No w w := Kp.refl _ _
  go_enter Try.func5, Try.ntmps5
  go_wp2_with fail
  refine (q1).mono ?_
  rintro e w1 ⟨rfl, s1⟩
  have k1 := k0.trans' s1.kp
  go_wp2_with fail
  refine (Q2.out _ k1).mono ?_
  rintro e w2 ⟨rfl, s2⟩
  have k2 := k1.trans' s2.kp
  go_wp2_with fail
  refine (T1.out _ k2).mono ?_
  rintro e w3 ⟨mx, rfl, X, _, _, j3⟩
  have k3 := k2.trans' j3
  go_wp2_with fail
  refine (T2.out _ k3).mono ?_
  rintro e w4 ⟨my, rfl, Y, _, _, j4⟩
  have k4 := k3.trans' j4
  have X := X.no j4
  go_wp2_with fail
  refine (sdet_F X).mono ?_
  rintro e w5 ⟨rfl, j5⟩
  have k5 := k4.trans' j5
  have X := X.no j5
  have Y := Y.no j5
  have d := D1.out _ k5
  go_wp2_with fail
  refine (invert_whole X HRK.out).mono ?_
  rintro e w6 ⟨mi, rfl, _, _, _, j6⟩
  have k6 := k5.trans' j6
  have X := X.no j6
  have Y := Y.no j6
  go_wp2_with fail
  refine (E1.out _ k6).mono ?_
  rintro e w7 ⟨rfl, j7⟩
  have k7 := k6.trans' j7
  have X := X.no j7
  have Y := Y.no j7
  go_wp2_with fail
  refine (mul_yes X Y).mono ?_
  rintro e w8 ⟨mp, rfl, Z, _, _, j8⟩
  have k8 := k7.trans' j8
  have X := X.no j8
  have Y := Y.no j8
  have e2 := D2.out _ k8
  go_wp2_with fail
  refine (awake4_any _).mono ?_
  rintro e w9 ⟨rfl, j9⟩
  have k9 := k8.trans' j9
  have X := X.no j9
  have Y := Y.no j9
  have Z := Z.no j9
  go_wp2_with fail
  go_ret
  exact ⟨rfl, k9.below0⟩
set_option maxHeartbeats 8000000 in
set_option maxRecDepth 100000 in
theorem dts_wf (h1 : Rwc w A1 n1 l1) (hS1 : Sml l1 n1 n1) (h2 : Rwc w A2 n1 l2) (hS2 : Sml l2 n1 n1) (hs1 : n1 ≤ 6) (hs2 : n1 ≤ 6) (hrk : (redS n1 (fnL l1) n1).rk = n1) : Calls Try.prog 5 #[.slice A1 n1 p1, .slice A2 n1 p2] w (EBel w) := by
  have q1 := small4_yes (cp := p1) h1.rws hS1
  have Q2 := hide fun w' (hk : Kp No w w') => small4_yes (cp := p2) (h2.rws.no hk) hS2
  have T1 := hide fun w' (hk : Kp No w w') => of_yes (cp := p1) (h1.rws.no hk) hS1.rect
  have T2 := hide fun w' (hk : Kp No w w') => of_yes (cp := p2) (h2.rws.no hk) hS2.rect
  have r1 := hS1.rect.r1
  have b1 := hS2.rect.r1
  have E1 := hide fun w' (hk : Kp No w w') => rdet_any n1 (by omega) (cp := p1) (h1.no hk) (rect_len hS1.rect)
  have R1 := hide hS1.rect
  have R2 := hide hS2.rect
  have H1 := hide fun w' (hk : Kp No w w') => h1.rws.no hk
  have H2 := hide fun w' (hk : Kp No w w') => h2.rws.no hk
  obtain ⟨B1, o1, A0, cp0, rfl, d1⟩ := h1.rws.head hS1.rect
  have D1 := hide fun w' (hk : Kp No w w') => hk.cell d1 fun f => f
  obtain ⟨B2, o2, A0', cp0', rfl, d2⟩ := h2.rws.head hS2.rect
  have D2 := hide fun w' (hk : Kp No w w') => hk.cell d2 fun f => f
  have HRK := hide hrk
  have t1 := det_rank n1 (fnL l1) hrk
  have E2 := hide fun w' (hk : Kp No w w') => rdet_any n1 (by omega) (cp := p2) (h2.no hk) (rect_len hS2.rect)
  have HDM : Hid (detF n1 (fnL (matL n1 n1 (mulF n1 (fnL l1) (fnL l2)))) = detF n1 (mulF n1 (fnL l1) (fnL l2))) := detF_congr (fnL_matL _)
  have HPR : Hid (um (detF n1 (fnL l1)) (detF n1 (fnL l2)) = detF n1 (mulF n1 (fnL l1) (fnL l2))) := (det_prod n1 (fnL l1) (fnL l2)).symm
  have HRL : Hid (∀ (j : Nat) bs, (matL n1 n1 (mulF n1 (fnL l1) (fnL l2)))[j]? = some bs → bs.length = n1) := (matL_rect _ r1 hS1.rect.r2 r1 hS1.rect.r2).row
  clear d1 d2 hrk hS1 hS2 h1 h2
  have k0 : Kp No w w := Kp.refl _ _
  go_enter Try.func5, Try.ntmps5
  go_wp2_with fail
  refine (q1).mono ?_
  rintro e w1 ⟨rfl, s1⟩
  have k1 := k0.trans' s1.kp
  go_wp2_with fail
  refine (Q2.out _ k1).mono ?_
  rintro e w2 ⟨rfl, s2⟩
  have k2 := k1.trans' s2.kp
  go_wp2_with fail
  refine (T1.out _ k2).mono ?_
  rintro e w3 ⟨mx, rfl, X, _, _, j3⟩
  have k3 := k2.trans' j3
  go_wp2_with fail
  refine (T2.out _ k3).mono ?_
  rintro e w4 ⟨my, rfl, Y, _, _, j4⟩
  have k4 := k3.trans' j4
  have X := X.no j4
  go_wp2_with fail
  refine (sdet_F X).mono ?_
  rintro e w5 ⟨rfl, j5⟩
  have k5 := k4.trans' j5
  have X := X.no j5
  have Y := Y.no j5
  have d := D1.out _ k5
  go_wp2_with fail
  refine (invert_whole X HRK.out).mono ?_
  rintro e w6 ⟨mi, rfl, _, _, _, j6⟩
  have k6 := k5.trans' j6
  have X := X.no j6
  have Y := Y.no j6
  go_wp2_with fail
  refine (E1.out _ k6).mono ?_
  rintro e w7 ⟨rfl, j7⟩
  have k7 := k6.trans' j7
  have X := X.no j7
  have Y := Y.no j7
  go_wp2_with fail
  refine (mul_yes X Y).mono ?_
  rintro e w8 ⟨mp, rfl, Z, _, _, j8⟩
  have k8 := k7.trans' j8
  have X := X.no j8
  have Y := Y.no j8
  have e2 := D2.out _ k8
  go_wp2_with fail
  refine (sdet_F Z).mono ?_
  rintro e w9 ⟨rfl, j9⟩
  have k9 := k8.trans' j9
  have Z := Z.no j9
  go_wp2_with fail
  refine (rmul_any (H1.out _ k9) R1.out (H2.out _ k9) R2.out).mono ?_
  rintro e w10 ⟨Am, cpm, bl, rfl, G, j10⟩
  have k10 := k9.trans' j10
  go_wp2_with fail
  refine (rdet_any n1 (by omega) G.rwc HRL.out).mono ?_
  rintro e w11 ⟨rfl, j11⟩
  have k11 := k10.trans' j11
  have G := G.no j11
  rw [HDM.out]
  go_wp2_with fail
  refine (E2.out _ k11).mono ?_
  rintro e w12 ⟨rfl, j12⟩
  have k12 := k11.trans' j12
  go_wp2_with fail
  refine (product_yes _ _ _ _ HPR.out).mono ?_
  rintro e w13 ⟨rfl, j13⟩
  have k13 := k12.trans' j13
  go_wp2_with fail
  refine (awake4_any _).mono ?_
  rintro e w14 ⟨rfl, j14⟩
  have k14 := k13.trans' j14
  go_wp2_with fail
  go_ret
  exact ⟨rfl, k14.below0⟩
set_option maxHeartbeats 8000000 in
set_option maxRecDepth 100000 in
theorem dts_sh {c2 : Nat} (h1 : Rwc w A1 n1 l1) (hS1 : Sml l1 n1 n1) (h2 : Rwc w A2 n2 l2) (hS2 : Sml l2 n2 c2) (hs1 : n1 ≤ 6) (hs2 : n2 ≤ 6) (hrk : (redS n1 (fnL l1) n1).rk < n1) (hne : n2 ≠ n1) : Calls Try.prog 5 #[.slice A1 n1 p1, .slice A2 n2 p2] w (EBel w) := by
  have q1 := small4_yes (cp := p1) h1.rws hS1
  have Q2 := hide fun w' (hk : Kp No w w') => small4_yes (cp := p2) (h2.rws.no hk) hS2
  have T1 := hide fun w' (hk : Kp No w w') => of_yes (cp := p1) (h1.rws.no hk) hS1.rect
  have T2 := hide fun w' (hk : Kp No w w') => of_yes (cp := p2) (h2.rws.no hk) hS2.rect
  have r1 := hS1.rect.r1
  have b1 := hS2.rect.r1
  have E1 := hide fun w' (hk : Kp No w w') => rdet_any n1 (by omega) (cp := p1) (h1.no hk) (rect_len hS1.rect)
  have R1 := hide hS1.rect
  have R2 := hide hS2.rect
  have H1 := hide fun w' (hk : Kp No w w') => h1.rws.no hk
  have H2 := hide fun w' (hk : Kp No w w') => h2.rws.no hk
  obtain ⟨B1, o1, A0, cp0, rfl, d1⟩ := h1.rws.head hS1.rect
  have D1 := hide fun w' (hk : Kp No w w') => hk.cell d1 fun f => f
  obtain ⟨B2, o2, A0', cp0', rfl, d2⟩ := h2.rws.head hS2.rect
  have D2 := hide fun w' (hk : Kp No w w') => hk.cell d2 fun f => f
  have HRK := hide hrk
  have t1 := det_norank n1 (fnL l1) hrk
  have HN : Hid (n1 ≠ n2) := Ne.symm hne
  clear hne
  clear d1 d2 hrk hS1 hS2 h1 h2
  have k0 : Kp No w w := Kp.refl _ _
  go_enter Try.func5, Try.ntmps5
  go_wp2_with fail
  refine (q1).mono ?_
  rintro e w1 ⟨rfl, s1⟩
  have k1 := k0.trans' s1.kp
  go_wp2_with fail
  refine (Q2.out _ k1).mono ?_
  rintro e w2 ⟨rfl, s2⟩
  have k2 := k1.trans' s2.kp
  go_wp2_with fail
  refine (T1.out _ k2).mono ?_
  rintro e w3 ⟨mx, rfl, X, _, _, j3⟩
  have k3 := k2.trans' j3
  go_wp2_with fail
  refine (T2.out _ k3).mono ?_
  rintro e w4 ⟨my, rfl, Y, _, _, j4⟩
  have k4 := k3.trans' j4
  have X := X.no j4
  go_wp2_with fail
  refine (sdet_F X).mono ?_
  rintro e w5 ⟨rfl, j5⟩
  have k5 := k4.trans' j5
  have X := X.no j5
  have Y := Y.no j5
  have d := D1.out _ k5
  go_wp2_with fail
  refine (invert_sing X HRK.out).mono ?_
  rintro e w6 ⟨rfl, j6⟩
  have k6 := k5.trans' j6
  have X := X.no j6
  have Y := Y.no j6
  go_wp2_with fail
  refine (E1.out _ k6).mono ?_
  rintro e w7 ⟨rfl, j7⟩
  have k7 := k6.trans' j7
  have X := X.no j7
  have Y := Y.no j7
  go_wp2_with fail
  refine (mul_no X Y HN.out).mono ?_
  rintro e w8 ⟨rfl, j8⟩
  have k8 := k7.trans' j8
  have X := X.no j8
  have Y := Y.no j8
  go_wp2_with fail
  refine (awake4_any _).mono ?_
  rintro e w9 ⟨rfl, j9⟩
  have k9 := k8.trans' j9
  have X := X.no j9
  have Y := Y.no j9
  go_wp2_with fail
  go_ret
  exact ⟨rfl, k9.below0⟩
set_option maxHeartbeats 8000000 in
set_option maxRecDepth 100000 in
theorem dts_sw {c2 : Nat} (h1 : Rwc w A1 n1 l1) (hS1 : Sml l1 n1 n1) (h2 : Rwc w A2 n1 l2) (hS2 : Sml l2 n1 c2) (hs1 : n1 ≤ 6) (hs2 : n1 ≤ 6) (hrk : (redS n1 (fnL l1) n1).rk < n1) (hne : n1 ≠ c2) : Calls Try.prog 5 #[.slice A1 n1 p1, .slice A2 n1 p2] w (EBel w) := by
  have q1 := small4_yes (cp := p1) h1.rws hS1
  have Q2 := hide fun w' (hk : Kp No w w') => small4_yes (cp := p2) (h2.rws.no hk) hS2
  have T1 := hide fun w' (hk : Kp No w w') => of_yes (cp := p1) (h1.rws.no hk) hS1.rect
  have T2 := hide fun w' (hk : Kp No w w') => of_yes (cp := p2) (h2.rws.no hk) hS2.rect
  have r1 := hS1.rect.r1
  have b1 := hS2.rect.r1
  have E1 := hide fun w' (hk : Kp No w w') => rdet_any n1 (by omega) (cp := p1) (h1.no hk) (rect_len hS1.rect)
  have R1 := hide hS1.rect
  have R2 := hide hS2.rect
  have H1 := hide fun w' (hk : Kp No w w') => h1.rws.no hk
  have H2 := hide fun w' (hk : Kp No w w') => h2.rws.no hk
  obtain ⟨B1, o1, A0, cp0, rfl, d1⟩ := h1.rws.head hS1.rect
  have D1 := hide fun w' (hk : Kp No w w') => hk.cell d1 fun f => f
  obtain ⟨B2, o2, A0', cp0', rfl, d2⟩ := h2.rws.head hS2.rect
  have D2 := hide fun w' (hk : Kp No w w') => hk.cell d2 fun f => f
  have HRK := hide hrk
  have t1 := det_norank n1 (fnL l1) hrk
  have t2 : ((n1 : Int) != (c2 : Int)) = true := by simp; omega
  clear hne
  clear d1 d2 hrk hS1 hS2 h1 h2
  have k0 : Kp No w w := Kp.refl _ _
  go_enter Try.func5, Try.ntmps5
  go_wp2_with fail
  refine (q1).mono ?_
  rintro e w1 ⟨rfl, s1⟩
  have k1 := k0.trans' s1.kp
  go_wp2_with fail
  refine (Q2.out _ k1).mono ?_
  rintro e w2 ⟨rfl, s2⟩
  have k2 := k1.trans' s2.kp
  go_wp2_with fail
  refine (T1.out _ k2).mono ?_
  rintro e w3 ⟨mx, rfl, X, _, _, j3⟩
  have k3 := k2.trans' j3
  go_wp2_with fail
  refine (T2.out _ k3).mono ?_
  rintro e w4 ⟨my, rfl, Y, _, _, j4⟩
  have k4 := k3.trans' j4
  have X := X.no j4
  go_wp2_with fail
  refine (sdet_F X).mono ?_
  rintro e w5 ⟨rfl, j5⟩
  have k5 := k4.trans' j5
  have X := X.no j5
  have Y := Y.no j5
  have d := D1.out _ k5
  go_wp2_with fail
  refine (invert_sing X HRK.out).mono ?_
  rintro e w6 ⟨rfl, j6⟩
  have k6 := k5.trans' j6
  have X := X.no j6
  have Y := Y.no j6
  go_wp2_with fail
  refine (E1.out _ k6).mono ?_
  rintro e w7 ⟨rfl, j7⟩
  have k7 := k6.trans' j7
  have X := X.no j7
  have Y := Y.no j7
  go_wp2_with fail
  refine (mul_yes X Y).mono ?_
  rintro e w8 ⟨mp, rfl, Z, _, _, j8⟩
  have k8 := k7.trans' j8
  have X := X.no j8
  have Y := Y.no j8
  have e2 := D2.out _ k8
  go_wp2_with fail
  refine (awake4_any _).mono ?_
  rintro e w9 ⟨rfl, j9⟩
  have k9 := k8.trans' j9
  have X := X.no j9
  have Y := Y.no j9
  have Z := Z.no j9
  go_wp2_with fail
  go_ret
  exact ⟨rfl, k9.below0⟩
set_option maxHeartbeats 8000000 in
set_option maxRecDepth 100000 in
theorem dts_sf (h1 : Rwc w A1 n1 l1) (hS1 : Sml l1 n1 n1) (h2 : Rwc w A2 n1 l2) (hS2 : Sml l2 n1 n1) (hs1 : n1 ≤ 6) (hs2 : n1 ≤ 6) (hrk : (redS n1 (fnL l1) n1).rk < n1) : Calls Try.prog 5 #[.slice A1 n1 p1, .slice A2 n1 p2] w (EBel w) := by
  have q1 := small4_yes (cp := p1) h1.rws hS1
  have Q2 := hide fun w' (hk : Kp No w w') => small4_yes (cp := p2) (h2.rws.no hk) hS2
  have T1 := hide fun w' (hk : Kp No w w') => of_yes (cp := p1) (h1.rws.no hk) hS1.rect
  have T2 := hide fun w' (hk : Kp No w w') => of_yes (cp := p2) (h2.rws.no hk) hS2.rect
  have r1 := hS1.rect.r1
  have b1 := hS2.rect.r1
  have E1 := hide fun w' (hk : Kp No w w') => rdet_any n1 (by omega) (cp := p1) (h1.no hk) (rect_len hS1.rect)
  have R1 := hide hS1.rect
  have R2 := hide hS2.rect
  have H1 := hide fun w' (hk : Kp No w w') => h1.rws.no hk
  have H2 := hide fun w' (hk : Kp No w w') => h2.rws.no hk
  obtain ⟨B1, o1, A0, cp0, rfl, d1⟩ := h1.rws.head hS1.rect
  have D1 := hide fun w' (hk : Kp No w w') => hk.cell d1 fun f => f
  obtain ⟨B2, o2, A0', cp0', rfl, d2⟩ := h2.rws.head hS2.rect
  have D2 := hide fun w' (hk : Kp No w w') => hk.cell d2 fun f => f
  have HRK := hide hrk
  have t1 := det_norank n1 (fnL l1) hrk
  have E2 := hide fun w' (hk : Kp No w w') => rdet_any n1 (by omega) (cp := p2) (h2.no hk) (rect_len hS2.rect)
  have HDM : Hid (detF n1 (fnL (matL n1 n1 (mulF n1 (fnL l1) (fnL l2)))) = detF n1 (mulF n1 (fnL l1) (fnL l2))) := detF_congr (fnL_matL _)
  have HPR : Hid (um (detF n1 (fnL l1)) (detF n1 (fnL l2)) = detF n1 (mulF n1 (fnL l1) (fnL l2))) := (det_prod n1 (fnL l1) (fnL l2)).symm
  have HRL : Hid (∀ (j : Nat) bs, (matL n1 n1 (mulF n1 (fnL l1) (fnL l2)))[j]? = some bs → bs.length = n1) := (matL_rect _ r1 hS1.rect.r2 r1 hS1.rect.r2).row
  clear d1 d2 hrk hS1 hS2 h1 h2
  have k0 : Kp No w w := Kp.refl _ _
  go_enter Try.func5, Try.ntmps5
  go_wp2_with fail
  refine (q1).mono ?_
  rintro e w1 ⟨rfl, s1⟩
  have k1 := k0.trans' s1.kp
  go_wp2_with fail
  refine (Q2.out _ k1).mono ?_
  rintro e w2 ⟨rfl, s2⟩
  have k2 := k1.trans' s2.kp
  go_wp2_with fail
  refine (T1.out _ k2).mono ?_
  rintro e w3 ⟨mx, rfl, X, _, _, j3⟩
  have k3 := k2.trans' j3
  go_wp2_with fail
  refine (T2.out _ k3).mono ?_
  rintro e w4 ⟨my, rfl, Y, _, _, j4⟩
  have k4 := k3.trans' j4
  have X := X.no j4
  go_wp2_with fail
  refine (sdet_F X).mono ?_
  rintro e w5 ⟨rfl, j5⟩
  have k5 := k4.trans' j5
  have X := X.no j5
  have Y := Y.no j5
  have d := D1.out _ k5
  go_wp2_with fail
  refine (invert_sing X HRK.out).mono ?_
  rintro e w6 ⟨rfl, j6⟩
  have k6 := k5.trans' j6
  have X := X.no j6
  have Y := Y.no j6
  go_wp2_with fail
  refine (E1.out _ k6).mono ?_
  rintro e w7 ⟨rfl, j7⟩
  have k7 := k6.trans' j7
  have X := X.no j7
  have Y := Y.no j7
  go_wp2_with fail
  refine (mul_yes X Y).mono ?_
  rintro e w8 ⟨mp, rfl, Z, _, _, j8⟩
  have k8 := k7.trans' j8
  have X := X.no j8
  have Y := Y.no j8
  have e2 := D2.out _ k8
  go_wp2_with fail
  refine (sdet_F Z).mono ?_
  rintro e w9 ⟨rfl, j9⟩
  have k9 := k8.trans' j9
  have Z := Z.no j9
  go_wp2_with fail
  refine (rmul_any (H1.out _ k9) R1.out (H2.out _ k9) R2.out).mono ?_
  rintro e w10 ⟨Am, cpm, bl, rfl, G, j10⟩
  have k10 := k9.trans' j10
  go_wp2_with fail
  refine (rdet_any n1 (by omega) G.rwc HRL.out).mono ?_
  rintro e w11 ⟨rfl, j11⟩
  have k11 := k10.trans' j11
  have G := G.no j11
  rw [HDM.out]
  go_wp2_with fail
  refine (E2.out _ k11).mono ?_
  rintro e w12 ⟨rfl, j12⟩
  have k12 := k11.trans' j12
  go_wp2_with fail
  refine (product_yes _ _ _ _ HPR.out).mono ?_
  rintro e w13 ⟨rfl, j13⟩
  have k13 := k12.trans' j13
  go_wp2_with fail
  refine (awake4_any _).mono ?_
  rintro e w14 ⟨rfl, j14⟩
  have k14 := k13.trans' j14
  go_wp2_with fail
  go_ret
  exact ⟨rfl, k14.below0⟩

theorem solvedets_walk (h1 : Rwc w A1 n1 l1) (h2 : Rwc w A2 n2 l2) :
    Calls Try.prog 5 #[.slice A1 n1 p1, .slice A2 n2 p2] w fun e w' => e = .returned (.bool true) ∧ Below w.heap.size w w' := by
  show Calls _ _ _ _ (EBel w)
  by_cases hS1 : Sml l1 n1 (len0 l1)
  · by_cases hS2 : Sml l2 n2 (len0 l2)
    · by_cases hb1 : 6 < n1
      · exact dts_big1 h1.rws hS1 h2.rws hS2 hb1
      · by_cases hb2 : 6 < n2
        · exact dts_big2 h1.rws hS1 h2.rws hS2 (by omega) hb2
        · have hs1 : n1 ≤ 6 := by omega
          have hs2 : n2 ≤ 6 := by omega
          by_cases hsq : n1 = len0 l1
          · rw [← hsq] at hS1
            by_cases hrk : (redS n1 (fnL l1) n1).rk = n1
            · by_cases hh : n2 = n1
              · subst hh
                by_cases hc : n2 = len0 l2
                · rw [← hc] at hS2
                  exact dts_wf h1 hS1 h2 hS2 hs1 hs2 hrk
                · exact dts_ww h1 hS1 h2 hS2 hs1 hs2 hrk hc
              · exact dts_wh h1 hS1 h2 hS2 hs1 hs2 hrk hh
            · have hlt : (redS n1 (fnL l1) n1).rk < n1 := by have := (redS_le n1 (fnL l1) n1).1; omega
              by_cases hh : n2 = n1
              · subst hh
                by_cases hc : n2 = len0 l2
                · rw [← hc] at hS2
                  exact dts_sf h1 hS1 h2 hS2 hs1 hs2 hlt
                · exact dts_sw h1 hS1 h2 hS2 hs1 hs2 hlt hc
              · exact dts_sh h1 hS1 h2 hS2 hs1 hs2 hlt hh
          · exact dts_nsq h1 hS1 h2 hS2 hs1 hs2 hsq
    · exact dts_not2 h1.rws hS1 h2.rws hS2
  · exact dts_not1 h1.rws hS1
end
end Go.Proofs.Ytcjenpkbfahiaaa
