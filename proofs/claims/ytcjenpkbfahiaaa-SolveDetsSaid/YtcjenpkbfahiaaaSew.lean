/- SolveEquations: what solves any equations, or that there isn't just one answer; and what every matrix comes to one with. -/
import Derived.Test.YtcjenpkbfahiaaaSsw
import Derived.Test.YtcjenpkbfahiaaaSu
import Derived.Test.YtcjenpkbfahiaaaMg
namespace Go.Proofs.Ytcjenpkbfahiaaa
open Go.RowKit
set_option linter.unusedVariables false

section
variable {w : World} {m m' : MB} {n c : Nat} {a b : Nat → Nat → UInt8}
theorem solve_whole (h : MatAt w m n n a) (h' : MatAt w m' n c b) (hrk : (redS n a n).rk = n) : Calls Try.prog 15 #[m.ptr, m'.ptr] w (NewPost w n c (offF n (redS n (catF n a b) n).f)) :=
  (solve_any h h').mono fun e w1 hp => by
    rcases hp with ⟨h1, _⟩ | ⟨_, h2⟩
    · omega
    · exact h2
theorem solve_sing (h : MatAt w m n n a) (h' : MatAt w m' n c b) (hrk : (redS n a n).rk < n) : Calls Try.prog 15 #[m.ptr, m'.ptr] w (SngPost w) :=
  (solve_any h h').mono fun e w1 hp => by
    rcases hp with ⟨_, h2⟩ | ⟨h1, _⟩
    · exact h2
    · omega
theorem invert_whole (h : MatAt w m n n a) (hrk : (redS n a n).rk = n) : Calls Try.prog 16 #[m.ptr] w (NewPost w n n (offF n (redS n (catF n a oneF) n).f)) :=
  (invert_any h).mono fun e w1 hp => by
    rcases hp with ⟨h1, _⟩ | ⟨_, h2⟩
    · omega
    · exact h2
theorem invert_sing (h : MatAt w m n n a) (hrk : (redS n a n).rk < n) : Calls Try.prog 16 #[m.ptr] w (SngPost w) :=
  (invert_any h).mono fun e w1 hp => by
    rcases hp with ⟨_, h2⟩ | ⟨h1, _⟩
    · exact h2
    · omega
/-- The product with what was found is b. -/
theorem solved {n c : Nat} {a b : Nat → Nat → UInt8} (hrk : (redS n a n).rk = n) : matL n c (mulF n a (fnL (matL n c (offF n (redS n (catF n a b) n).f)))) = matL n c b := by
  refine matL_congr fun i k hi hk => ?_
  have hc := (redS_congr (catF_left n a b n) n (Nat.le_refl _)).1
  have h1 := solve_eq (m := c) a b (by omega) i k hi hk
  rw [← h1]
  exact ud_congr (fun j _ => rfl) fun j hj => fnL_matL _ j k hj hk
end

section
variable {w : World} {A1 A2 : Option Addr} {n1 n2 p1 p2 : Nat} {l1 l2 : List (List UInt8)}
/-- The law's end. -/
def EBel (w : World) (e : Ending) (w1 : World) : Prop := e = .returned (.bool true) ∧ Below w.heap.size w w1
set_option maxHeartbeats 8000000 in
set_option maxRecDepth 100000 in
theorem equ_not1 (h1 : Rws w A1 n1 l1) (hS : ¬ Sml l1 n1 (len0 l1)) : Calls Try.prog 4 #[.slice A1 n1 p1, .slice A2 n2 p2] w (EBel w) := by
  have q1 := small4_no (cp := p1) h1 hS
  clear hS
  have k0 : Kp No w w := Kp.refl _ _
  go_enter Try.func4, Try.ntmps4
  go_wp2_with fail
  refine (q1).mono ?_
  rintro e w1 ⟨rfl, s1⟩
  have k1 := k0.trans' s1.kp
  go_wp2_with fail
  refine (awake4_any _).mono ?_
  rintro e w2 ⟨rfl, j2⟩
  have k2 := k1.trans' j2
  go_wp2_with fail
  go_ret
  exact ⟨rfl, k2.below0⟩
set_option maxHeartbeats 8000000 in
set_option maxRecDepth 100000 in
theorem equ_not2 {c1 : Nat} (h1 : Rws w A1 n1 l1) (hS1 : Sml l1 n1 c1) (h2 : Rws w A2 n2 l2) (hS : ¬ Sml l2 n2 (len0 l2)) : Calls Try.prog 4 #[.slice A1 n1 p1, .slice A2 n2 p2] w (EBel w) := by
  have q1 := small4_yes (cp := p1) h1 hS1
  have Q2 := hide fun w' (hk : Kp No w w') => small4_no (cp := p2) (h2.no hk) hS
  clear hS
  have k0 : Kp No w w := Kp.refl _ _
  go_enter Try.func4, Try.ntmps4
  go_wp2_with fail
  refine (q1).mono ?_
  rintro e w1 ⟨rfl, s1⟩
  have k1 := k0.trans' s1.kp
  go_wp2_with fail
  refine (Q2.out _ k1).mono ?_
  rintro e w2 ⟨rfl, s2⟩
  have k2 := k1.trans' s2.kp
  go_wp2_with fail
  refine (awake4_any _).mono ?_
  rintro e w3 ⟨rfl, j3⟩
  have k3 := k2.trans' j3
  go_wp2_with fail
  go_ret
  exact ⟨rfl, k3.below0⟩
set_option maxHeartbeats 8000000 in
set_option maxRecDepth 100000 in
theorem equ_nsq {c1 c2 : Nat} (h1 : Rws w A1 n1 l1) (hS1 : Sml l1 n1 c1) (h2 : Rws w A2 n2 l2) (hS2 : Sml l2 n2 c2) (hne : n1 ≠ c1) : Calls Try.prog 4 #[.slice A1 n1 p1, .slice A2 n2 p2] w (EBel w) := by
  have q1 := small4_yes (cp := p1) h1 hS1
  have Q2 := hide fun w' (hk : Kp No w w') => small4_yes (cp := p2) (h2.no hk) hS2
  have T1 := hide fun w' (hk : Kp No w w') => of_yes (cp := p1) (h1.no hk) hS1.rect
  have T2 := hide fun w' (hk : Kp No w w') => of_yes (cp := p2) (h2.no hk) hS2.rect
  have r1 := hS1.rect.r1
  have r9 := hS1.r9
  have b9 := hS2.r9
  obtain ⟨B1, o1, A0, cp0, rfl, d1⟩ := h1.head hS1.rect
  have D1 := hide fun w' (hk : Kp No w w') => hk.cell d1 fun f => f
  have t0 : ((n1 : Int) != (c1 : Int)) = true := by simp; omega
  have HN := hide hne
  clear d1 hne hS1 hS2
  have k0 : Kp No w w := Kp.refl _ _
  go_enter Try.func4, Try.ntmps4
  go_wp2_with fail
  refine (q1).mono ?_
  rintro e w1 ⟨rfl, s1⟩
  have k1 := k0.trans' s1.kp
  go_wp2_with fail
  refine (Q2.out _ k1).mono ?_
  rintro e w2 ⟨rfl, s2⟩
  have k2 := k1.trans' s2.kp
  go_wp2_with fail
  refine (T1.out _ k2).mono ?_
  rintro e w3 ⟨mx, rfl, X, _, _, j3⟩
  have k3 := k2.trans' j3
  go_wp2_with fail
  refine (T2.out _ k3).mono ?_
  rintro e w4 ⟨my, rfl, Y, _, _, j4⟩
  have k4 := k3.trans' j4
  have X := X.no j4
  go_wp2_with fail
  refine (solve_nsq X HN.out Y).mono ?_
  rintro e w5 ⟨rfl, j5⟩
  have k5 := k4.trans' j5
  have X := X.no j5
  have Y := Y.no j5
  go_wp2_with fail
  refine (invert_nsq X HN.out).mono ?_
  rintro e w6 ⟨rfl, j6⟩
  have k6 := k5.trans' j6
  have X := X.no j6
  have Y := Y.no j6
  go_wp2_with fail
  refine (solve_nil Y).mono ?_
  rintro e w7 ⟨rfl, j7⟩
  have k7 := k6.trans' j7
  have X := X.no j7
  have Y := Y.no j7
  go_wp2_with fail
  refine (invert_nil _).mono ?_
  rintro e w8 ⟨rfl, j8⟩
  have k8 := k7.trans' j8
  have X := X.no j8
  have Y := Y.no j8
  have d := D1.out _ k8
  go_wp2_with fail
  refine (awake4_any _).mono ?_
  rintro e w9 ⟨rfl, j9⟩
  have k9 := k8.trans' j9
  have X := X.no j9
  have Y := Y.no j9
  go_wp2_with fail
  go_ret
  exact ⟨rfl, k9.below0⟩
set_option maxHeartbeats 8000000 in
set_option maxRecDepth 100000 in
theorem equ_wf {c2 : Nat} (h1 : Rws w A1 n1 l1) (hS1 : Sml l1 n1 n1) (h2 : Rws w A2 n1 l2) (hS2 : Sml l2 n1 c2) (hrk : (redS n1 (fnL l1) n1).rk = n1) : Calls Try.prog 4 #[.slice A1 n1 p1, .slice A2 n1 p2] w (EBel w) := by
  have q1 := small4_yes (cp := p1) h1 hS1
  have Q2 := hide fun w' (hk : Kp No w w') => small4_yes (cp := p2) (h2.no hk) hS2
  have T1 := hide fun w' (hk : Kp No w w') => of_yes (cp := p1) (h1.no hk) hS1.rect
  have T2 := hide fun w' (hk : Kp No w w') => of_yes (cp := p2) (h2.no hk) hS2.rect
  have r1 := hS1.rect.r1
  have r9 := hS1.r9
  have b9 := hS2.r9
  have T3 := hide fun w' (hk : Kp No w w') => rrank_any (cp := p1) (h1.no hk) hS1.rect
  have H1 := hide fun w' (hk : Kp No w w') => h1.no hk
  have H2 := hide fun w' (hk : Kp No w w') => h2.no hk
  have R1 := hide hS1.rect
  have R2 := hide hS2.rect
  have r2 := hS1.rect.r2
  have bc1 := hS2.rect.c1
  have bc2 := hS2.rect.c2
  have HM := hide (matL_fnL hS2.rect)
  obtain ⟨B1, o1, A0, cp0, rfl, d1⟩ := h1.head hS1.rect
  have D1 := hide fun w' (hk : Kp No w w') => hk.cell d1 fun f => f
  have HRK := hide hrk
  clear d1 hrk hS1 hS2 h1 h2
  have k0 : Kp No w w := Kp.refl _ _
  go_enter Try.func4, Try.ntmps4
  go_wp2_with fail
  refine (q1).mono ?_
  rintro e w1 ⟨rfl, s1⟩
  have k1 := k0.trans' s1.kp
  go_wp2_with fail
  refine (Q2.out _ k1).mono ?_
  rintro e w2 ⟨rfl, s2⟩
  have k2 := k1.trans' s2.kp
  go_wp2_with fail
  refine (T1.out _ k2).mono ?_
  rintro e w3 ⟨mx, rfl, X, _, _, j3⟩
  have k3 := k2.trans' j3
  go_wp2_with fail
  refine (T2.out _ k3).mono ?_
  rintro e w4 ⟨my, rfl, Y, _, _, j4⟩
  have k4 := k3.trans' j4
  have X := X.no j4
  go_wp2_with fail
  refine (solve_whole X Y HRK.out).mono ?_
  rintro e w5 ⟨mz, rfl, Z, _, _, j5⟩
  have k5 := k4.trans' j5
  have X := X.no j5
  have Y := Y.no j5
  go_wp2_with fail
  refine (invert_whole X HRK.out).mono ?_
  rintro e w6 ⟨mi, rfl, I, _, _, j6⟩
  have k6 := k5.trans' j6
  have X := X.no j6
  have Y := Y.no j6
  have Z := Z.no j6
  go_wp2_with fail
  refine (solve_nil Y).mono ?_
  rintro e w7 ⟨rfl, j7⟩
  have k7 := k6.trans' j7
  have X := X.no j7
  have Y := Y.no j7
  have Z := Z.no j7
  have I := I.no j7
  go_wp2_with fail
  refine (invert_nil _).mono ?_
  rintro e w8 ⟨rfl, j8⟩
  have k8 := k7.trans' j8
  have Z := Z.no j8
  have I := I.no j8
  have d := D1.out _ k8
  go_wp2_with fail
  refine (T3.out _ k8).mono ?_
  rintro e w9 ⟨rfl, j9⟩
  have k9 := k8.trans' j9
  have Z := Z.no j9
  have I := I.no j9
  rw [HRK.out]
  go_wp2_with fail
  refine (rows4_any I).mono ?_
  rintro e w10 ⟨Ai, cpi, rfl, Ri, j10⟩
  have k10 := k9.trans' j10
  have Z := Z.no j10
  have I := I.no j10
  go_wp2_with fail
  refine (rmul_any (H1.out _ k10) R1.out Ri (matL_rect _ r1 r2 r1 r2)).mono ?_
  rintro e w11 ⟨Am, cpm, bl, rfl, G, j11⟩
  have k11 := k10.trans' j11
  have Z := Z.no j11
  have Ri := Ri.no j11
  go_wp2_with fail
  refine (rone_any n1 _ r1 (by omega)).mono ?_
  rintro e w12 ⟨Ao, cpo, blo, rfl, O, j12⟩
  have k12 := k11.trans' j12
  have Z := Z.no j12
  have G := G.no j12
  go_wp2_with fail
  refine (rsame4 G.rws O.rws (by omega) (by omega) (solved HRK.out)).mono ?_
  rintro e w13 ⟨rfl, s13⟩
  have k13 := k12.trans' s13.kp
  have Z := Z.no s13.kp
  have G := G.no s13.kp
  have O := O.no s13.kp
  go_wp2_with fail
  refine (rows4_any Z).mono ?_
  rintro e w14 ⟨Az, cpz, rfl, Rz, j14⟩
  have k14 := k13.trans' j14
  have Z := Z.no j14
  go_wp2_with fail
  refine (rmul_any (H1.out _ k14) R1.out Rz (matL_rect _ r1 r2 bc1 bc2)).mono ?_
  rintro e w15 ⟨An, cpn, bln, rfl, Gn, j15⟩
  have k15 := k14.trans' j15
  have Rz := Rz.no j15
  go_wp2_with fail
  refine (rsame4 Gn.rws (H2.out _ k15) (by omega) (by omega) ((solved HRK.out).trans HM.out)).mono ?_
  rintro e w16 ⟨rfl, s16⟩
  have k16 := k15.trans' s16.kp
  have Gn := Gn.no s16.kp
  go_wp2_with fail
  refine (awake4_any _).mono ?_
  rintro e w17 ⟨rfl, j17⟩
  have k17 := k16.trans' j17
  go_wp2_with fail
  go_ret
  exact ⟨rfl, k17.below0⟩
set_option maxHeartbeats 8000000 in
set_option maxRecDepth 100000 in
theorem equ_wh {c2 : Nat} (h1 : Rws w A1 n1 l1) (hS1 : Sml l1 n1 n1) (h2 : Rws w A2 n2 l2) (hS2 : Sml l2 n2 c2) (hrk : (redS n1 (fnL l1) n1).rk = n1) (hne : n2 ≠ n1) : Calls Try.prog 4 #[.slice A1 n1 p1, .slice A2 n2 p2] w (EBel w) := by
  have q1 := small4_yes (cp := p1) h1 hS1
  have Q2 := hide fun w' (hk : Kp No w w') => small4_yes (cp := p2) (h2.no hk) hS2
  have T1 := hide fun w' (hk : Kp No w w') => of_yes (cp := p1) (h1.no hk) hS1.rect
  have T2 := hide fun w' (hk : Kp No w w') => of_yes (cp := p2) (h2.no hk) hS2.rect
  have r1 := hS1.rect.r1
  have r9 := hS1.r9
  have b9 := hS2.r9
  have T3 := hide fun w' (hk : Kp No w w') => rrank_any (cp := p1) (h1.no hk) hS1.rect
  have H1 := hide fun w' (hk : Kp No w w') => h1.no hk
  have H2 := hide fun w' (hk : Kp No w w') => h2.no hk
  have R1 := hide hS1.rect
  have R2 := hide hS2.rect
  have r2 := hS1.rect.r2
  have bc1 := hS2.rect.c1
  have bc2 := hS2.rect.c2
  have HM := hide (matL_fnL hS2.rect)
  obtain ⟨B1, o1, A0, cp0, rfl, d1⟩ := h1.head hS1.rect
  have D1 := hide fun w' (hk : Kp No w w') => hk.cell d1 fun f => f
  have HRK := hide hrk
  have t0 : ((n2 : Int) != (n1 : Int)) = true := by simp; omega
  have HN := hide hne
  clear hne
  clear d1 hrk hS1 hS2 h1 h2
  have k0 : Kp No w w := Kp.refl _ _
  go_enter Try.func4, Try.ntmps4
  go_wp2_with fail
  refine (q1).mono ?_
  rintro e w1 ⟨rfl, s1⟩
  have k1 := k0.trans' s1.kp
  go_wp2_with fail
  refine (Q2.out _ k1).mono ?_
  rintro e w2 ⟨rfl, s2⟩
  have k2 := k1.trans' s2.kp
  go_wp2_with fail
  refine (T1.out _ k2).mono ?_
  rintro e w3 ⟨mx, rfl, X, _, _, j3⟩
  have k3 := k2.trans' j3
  go_wp2_with fail
  refine (T2.out _ k3).mono ?_
  rintro e w4 ⟨my, rfl, Y, _, _, j4⟩
  have k4 := k3.trans' j4
  have X := X.no j4
  go_wp2_with fail
  refine (solve_high X Y HN.out).mono ?_
  rintro e w5 ⟨rfl, j5⟩
  have k5 := k4.trans' j5
  have X := X.no j5
  have Y := Y.no j5
  go_wp2_with fail
  refine (invert_whole X HRK.out).mono ?_
  rintro e w6 ⟨mi, rfl, I, _, _, j6⟩
  have k6 := k5.trans' j6
  have X := X.no j6
  have Y := Y.no j6
  go_wp2_with fail
  refine (solve_nil Y).mono ?_
  rintro e w7 ⟨rfl, j7⟩
  have k7 := k6.trans' j7
  have X := X.no j7
  have Y := Y.no j7
  have I := I.no j7
  go_wp2_with fail
  refine (invert_nil _).mono ?_
  rintro e w8 ⟨rfl, j8⟩
  have k8 := k7.trans' j8
  have I := I.no j8
  have d := D1.out _ k8
  go_wp2_with fail
  refine (T3.out _ k8).mono ?_
  rintro e w9 ⟨rfl, j9⟩
  have k9 := k8.trans' j9
  have I := I.no j9
  rw [HRK.out]
  go_wp2_with fail
  refine (rows4_any I).mono ?_
  rintro e w10 ⟨Ai, cpi, rfl, Ri, j10⟩
  have k10 := k9.trans' j10
  have I := I.no j10
  go_wp2_with fail
  refine (rmul_any (H1.out _ k10) R1.out Ri (matL_rect _ r1 r2 r1 r2)).mono ?_
  rintro e w11 ⟨Am, cpm, bl, rfl, G, j11⟩
  have k11 := k10.trans' j11
  have Ri := Ri.no j11
  go_wp2_with fail
  refine (rone_any n1 _ r1 (by omega)).mono ?_
  rintro e w12 ⟨Ao, cpo, blo, rfl, O, j12⟩
  have k12 := k11.trans' j12
  have G := G.no j12
  go_wp2_with fail
  refine (rsame4 G.rws O.rws (by omega) (by omega) (solved HRK.out)).mono ?_
  rintro e w13 ⟨rfl, s13⟩
  have k13 := k12.trans' s13.kp
  have G := G.no s13.kp
  have O := O.no s13.kp
  go_wp2_with fail
  refine (awake4_any _).mono ?_
  rintro e w14 ⟨rfl, j14⟩
  have k14 := k13.trans' j14
  go_wp2_with fail
  go_ret
  exact ⟨rfl, k14.below0⟩
set_option maxHeartbeats 8000000 in
set_option maxRecDepth 100000 in
theorem equ_sf {c2 : Nat} (h1 : Rws w A1 n1 l1) (hS1 : Sml l1 n1 n1) (h2 : Rws w A2 n1 l2) (hS2 : Sml l2 n1 c2) (hrk : (redS n1 (fnL l1) n1).rk < n1) : Calls Try.prog 4 #[.slice A1 n1 p1, .slice A2 n1 p2] w (EBel w) := by
  have q1 := small4_yes (cp := p1) h1 hS1
  have Q2 := hide fun w' (hk : Kp No w w') => small4_yes (cp := p2) (h2.no hk) hS2
  have T1 := hide fun w' (hk : Kp No w w') => of_yes (cp := p1) (h1.no hk) hS1.rect
  have T2 := hide fun w' (hk : Kp No w w') => of_yes (cp := p2) (h2.no hk) hS2.rect
  have r1 := hS1.rect.r1
  have r9 := hS1.r9
  have b9 := hS2.r9
  have T3 := hide fun w' (hk : Kp No w w') => rrank_any (cp := p1) (h1.no hk) hS1.rect
  have H1 := hide fun w' (hk : Kp No w w') => h1.no hk
  have H2 := hide fun w' (hk : Kp No w w') => h2.no hk
  have R1 := hide hS1.rect
  have R2 := hide hS2.rect
  have r2 := hS1.rect.r2
  have bc1 := hS2.rect.c1
  have bc2 := hS2.rect.c2
  have HM := hide (matL_fnL hS2.rect)
  obtain ⟨B1, o1, A0, cp0, rfl, d1⟩ := h1.head hS1.rect
  have D1 := hide fun w' (hk : Kp No w w') => hk.cell d1 fun f => f
  have HRK := hide hrk
  have t1 : (((redS n1 (fnL l1) n1).rk : Int) == (n1 : Int)) = false := by simp; omega
  clear d1 hrk hS1 hS2 h1 h2
  have k0 : Kp No w w := Kp.refl _ _
  go_enter Try.func4, Try.ntmps4
  go_wp2_with fail
  refine (q1).mono ?_
  rintro e w1 ⟨rfl, s1⟩
  have k1 := k0.trans' s1.kp
  go_wp2_with fail
  refine (Q2.out _ k1).mono ?_
  rintro e w2 ⟨rfl, s2⟩
  have k2 := k1.trans' s2.kp
  go_wp2_with fail
  refine (T1.out _ k2).mono ?_
  rintro e w3 ⟨mx, rfl, X, _, _, j3⟩
  have k3 := k2.trans' j3
  go_wp2_with fail
  refine (T2.out _ k3).mono ?_
  rintro e w4 ⟨my, rfl, Y, _, _, j4⟩
  have k4 := k3.trans' j4
  have X := X.no j4
  go_wp2_with fail
  refine (solve_sing X Y HRK.out).mono ?_
  rintro e w5 ⟨rfl, j5⟩
  have k5 := k4.trans' j5
  have X := X.no j5
  have Y := Y.no j5
  go_wp2_with fail
  refine (invert_sing X HRK.out).mono ?_
  rintro e w6 ⟨rfl, j6⟩
  have k6 := k5.trans' j6
  have X := X.no j6
  have Y := Y.no j6
  go_wp2_with fail
  refine (solve_nil Y).mono ?_
  rintro e w7 ⟨rfl, j7⟩
  have k7 := k6.trans' j7
  have X := X.no j7
  have Y := Y.no j7
  go_wp2_with fail
  refine (invert_nil _).mono ?_
  rintro e w8 ⟨rfl, j8⟩
  have k8 := k7.trans' j8
  have d := D1.out _ k8
  go_wp2_with fail
  refine (T3.out _ k8).mono ?_
  rintro e w9 ⟨rfl, j9⟩
  have k9 := k8.trans' j9
  go_wp2_with fail
  refine (awake4_any _).mono ?_
  rintro e w10 ⟨rfl, j10⟩
  have k10 := k9.trans' j10
  go_wp2_with fail
  go_ret
  exact ⟨rfl, k10.below0⟩
set_option maxHeartbeats 8000000 in
set_option maxRecDepth 100000 in
theorem equ_sh {c2 : Nat} (h1 : Rws w A1 n1 l1) (hS1 : Sml l1 n1 n1) (h2 : Rws w A2 n2 l2) (hS2 : Sml l2 n2 c2) (hrk : (redS n1 (fnL l1) n1).rk < n1) (hne : n2 ≠ n1) : Calls Try.prog 4 #[.slice A1 n1 p1, .slice A2 n2 p2] w (EBel w) := by
  have q1 := small4_yes (cp := p1) h1 hS1
  have Q2 := hide fun w' (hk : Kp No w w') => small4_yes (cp := p2) (h2.no hk) hS2
  have T1 := hide fun w' (hk : Kp No w w') => of_yes (cp := p1) (h1.no hk) hS1.rect
  have T2 := hide fun w' (hk : Kp No w w') => of_yes (cp := p2) (h2.no hk) hS2.rect
  have r1 := hS1.rect.r1
  have r9 := hS1.r9
  have b9 := hS2.r9
  have T3 := hide fun w' (hk : Kp No w w') => rrank_any (cp := p1) (h1.no hk) hS1.rect
  have H1 := hide fun w' (hk : Kp No w w') => h1.no hk
  have H2 := hide fun w' (hk : Kp No w w') => h2.no hk
  have R1 := hide hS1.rect
  have R2 := hide hS2.rect
  have r2 := hS1.rect.r2
  have bc1 := hS2.rect.c1
  have bc2 := hS2.rect.c2
  have HM := hide (matL_fnL hS2.rect)
  obtain ⟨B1, o1, A0, cp0, rfl, d1⟩ := h1.head hS1.rect
  have D1 := hide fun w' (hk : Kp No w w') => hk.cell d1 fun f => f
  have HRK := hide hrk
  have t0 : ((n2 : Int) != (n1 : Int)) = true := by simp; omega
  have HN := hide hne
  clear hne
  have t1 : (((redS n1 (fnL l1) n1).rk : Int) == (n1 : Int)) = false := by simp; omega
  clear d1 hrk hS1 hS2 h1 h2
  have k0 : Kp No w w := Kp.refl _ _
  go_enter Try.func4, Try.ntmps4
  go_wp2_with fail
  refine (q1).mono ?_
  rintro e w1 ⟨rfl, s1⟩
  have k1 := k0.trans' s1.kp
  go_wp2_with fail
  refine (Q2.out _ k1).mono ?_
  rintro e w2 ⟨rfl, s2⟩
  have k2 := k1.trans' s2.kp
  go_wp2_with fail
  refine (T1.out _ k2).mono ?_
  rintro e w3 ⟨mx, rfl, X, _, _, j3⟩
  have k3 := k2.trans' j3
  go_wp2_with fail
  refine (T2.out _ k3).mono ?_
  rintro e w4 ⟨my, rfl, Y, _, _, j4⟩
  have k4 := k3.trans' j4
  have X := X.no j4
  go_wp2_with fail
  refine (solve_high X Y HN.out).mono ?_
  rintro e w5 ⟨rfl, j5⟩
  have k5 := k4.trans' j5
  have X := X.no j5
  have Y := Y.no j5
  go_wp2_with fail
  refine (invert_sing X HRK.out).mono ?_
  rintro e w6 ⟨rfl, j6⟩
  have k6 := k5.trans' j6
  have X := X.no j6
  have Y := Y.no j6
  go_wp2_with fail
  refine (solve_nil Y).mono ?_
  rintro e w7 ⟨rfl, j7⟩
  have k7 := k6.trans' j7
  have X := X.no j7
  have Y := Y.no j7
  go_wp2_with fail
  refine (invert_nil _).mono ?_
  rintro e w8 ⟨rfl, j8⟩
  have k8 := k7.trans' j8
  have d := D1.out _ k8
  go_wp2_with fail
  refine (T3.out _ k8).mono ?_
  rintro e w9 ⟨rfl, j9⟩
  have k9 := k8.trans' j9
  go_wp2_with fail
  refine (awake4_any _).mono ?_
  rintro e w10 ⟨rfl, j10⟩
  have k10 := k9.trans' j10
  go_wp2_with fail
  go_ret
  exact ⟨rfl, k10.below0⟩

theorem solveequations_walk (h1 : Rws w A1 n1 l1) (h2 : Rws w A2 n2 l2) :
    Calls Try.prog 4 #[.slice A1 n1 p1, .slice A2 n2 p2] w fun e w' => e = .returned (.bool true) ∧ Below w.heap.size w w' := by
  show Calls _ _ _ _ (EBel w)
  by_cases hS1 : Sml l1 n1 (len0 l1)
  · by_cases hS2 : Sml l2 n2 (len0 l2)
    · by_cases hsq : n1 = len0 l1
      · rw [← hsq] at hS1
        by_cases hrk : (redS n1 (fnL l1) n1).rk = n1
        · by_cases hh : n2 = n1
          · subst hh
            exact equ_wf h1 hS1 h2 hS2 hrk
          · exact equ_wh h1 hS1 h2 hS2 hrk hh
        · have hlt : (redS n1 (fnL l1) n1).rk < n1 := by have := (redS_le n1 (fnL l1) n1).1; omega
          by_cases hh : n2 = n1
          · subst hh
            exact equ_sf h1 hS1 h2 hS2 hlt
          · exact equ_sh h1 hS1 h2 hS2 hlt hh
      · exact equ_nsq h1 hS1 h2 hS2 hsq
    · exact equ_not2 h1 hS1 h2 hS2
  · exact equ_not1 h1 hS1
end
end Go.Proofs.Ytcjenpkbfahiaaa
