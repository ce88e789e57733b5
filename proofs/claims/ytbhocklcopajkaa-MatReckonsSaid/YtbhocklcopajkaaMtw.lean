/- MatTurns: a product turned is that of both, turned, the other way round; products may be taken together in any way. -/
import Derived.Test.YtbhocklcopajkaaMkw
import Derived.Test.YtbhocklcopajkaaMq
namespace Go.Proofs.Ytbhocklcopajkaa
open Go.RowKit
set_option linter.unusedVariables false
set_option linter.unusedSimpArgs false


section
variable {w : World} {A1 A2 A3 : Option Addr} {n1 n2 n3 p1 p2 p3 : Nat} {l1 l2 l3 : List (List UInt8)}

/-- The law's end where it says nothing. -/
def TBel (w : World) (e : Ending) (w1 : World) : Prop := e = .returned (.bool true) ∧ Below w.heap.size w w1

set_option maxHeartbeats 4000000 in
set_option maxRecDepth 100000 in
theorem turns_not1 (h1 : Rws w A1 n1 l1) (hS : ¬ Sml l1 n1 (len0 l1)) : Calls Try.prog 6 #[.slice A1 n1 p1, .slice A2 n2 p2, .slice A3 n3 p3] w (TBel w) := by
  go_enter Try.func6, Try.ntmps6
  go_wp2_with fail
  refine (small_no h1 hS).mono ?_
  rintro e w1 ⟨rfl, hs1⟩
  go_wp2_with fail
  refine (awake_any _).mono ?_
  rintro e w2 ⟨rfl, hk⟩
  go_wp2_with fail
  go_ret
  exact ⟨rfl, (hs1.kp.trans' hk).below0⟩
set_option maxHeartbeats 4000000 in
set_option maxRecDepth 100000 in
theorem turns_not2 {c1 : Nat} (h1 : Rws w A1 n1 l1) (hS1 : Sml l1 n1 c1) (h2 : Rws w A2 n2 l2) (hS : ¬ Sml l2 n2 (len0 l2)) : Calls Try.prog 6 #[.slice A1 n1 p1, .slice A2 n2 p2, .slice A3 n3 p3] w (TBel w) := by
  go_enter Try.func6, Try.ntmps6
  go_wp2_with fail
  refine (small_yes h1 hS1).mono ?_
  rintro e w1 ⟨rfl, hs1⟩
  go_wp2_with fail
  refine (small_no (h2.no hs1.kp) hS).mono ?_
  rintro e w2 ⟨rfl, hs2⟩
  go_wp2_with fail
  refine (awake_any _).mono ?_
  rintro e w3 ⟨rfl, hk⟩
  go_wp2_with fail
  go_ret
  exact ⟨rfl, ((hs1.trans hs2).kp.trans' hk).below0⟩
set_option maxHeartbeats 4000000 in
set_option maxRecDepth 100000 in
theorem turns_not3 {c1 c2 : Nat} (h1 : Rws w A1 n1 l1) (hS1 : Sml l1 n1 c1) (h2 : Rws w A2 n2 l2) (hS2 : Sml l2 n2 c2) (h3 : Rws w A3 n3 l3) (hS : ¬ Sml l3 n3 (len0 l3)) : Calls Try.prog 6 #[.slice A1 n1 p1, .slice A2 n2 p2, .slice A3 n3 p3] w (TBel w) := by
  go_enter Try.func6, Try.ntmps6
  go_wp2_with fail
  refine (small_yes h1 hS1).mono ?_
  rintro e w1 ⟨rfl, hs1⟩
  go_wp2_with fail
  refine (small_yes (h2.no hs1.kp) hS2).mono ?_
  rintro e w2 ⟨rfl, hs2⟩
  go_wp2_with fail
  refine (small_no (h3.no (hs1.trans hs2).kp) hS).mono ?_
  rintro e w3 ⟨rfl, hs3⟩
  go_wp2_with fail
  refine (awake_any _).mono ?_
  rintro e w4 ⟨rfl, hk⟩
  go_wp2_with fail
  go_ret
  exact ⟨rfl, (((hs1.trans hs2).trans hs3).kp.trans' hk).below0⟩

/-- The first row's slice. -/
theorem Rws.first {A : Option Addr} {n c : Nat} {bss : List (List UInt8)} (h : Rws w A n bss) (hR : Rect bss n c) : ∃ B off A0 cp0, A = some ⟨B, off, none⟩ ∧ w.cell? ⟨B, off, none⟩ = some (.slice A0 c cp0) ∧ ∃ bs, bss[0]? = some bs ∧ Bts w (.slice A0 c cp0) bs := by
  obtain ⟨B, off, A0, m0, cp0, b0, rfl, hc0, hb0, hbt0⟩ := h.get (j := 0) (by have := hR.r1; omega)
  rw [Nat.add_zero] at hc0
  have hm0 : c = m0 := by rw [hbt0.len]; exact (hR.row 0 b0 hb0).symm
  subst hm0
  exact ⟨B, off, A0, cp0, rfl, hc0, b0, hb0, hbt0⟩

set_option maxHeartbeats 4000000 in
set_option maxRecDepth 100000 in
theorem turns_fit {c1 c2 c3 : Nat} (h1 : Rws w A1 n1 l1) (hS1 : Sml l1 n1 c1) (h2 : Rws w A2 n2 l2) (hS2 : Sml l2 n2 c2) (h3 : Rws w A3 n3 l3) (hS3 : Sml l3 n3 c3) (hbad : c1 ≠ n2 ∨ (c1 = n2 ∧ c2 ≠ n3)) :
    Calls Try.prog 6 #[.slice A1 n1 p1, .slice A2 n2 p2, .slice A3 n3 p3] w (TBel w) := by
  have q1 := small_yes (cp := p1) h1 hS1
  have q2 := fun w' (hs : Sm w w') => small_yes (cp := p2) (h2.no hs.kp) hS2
  have q3 := fun w' (hs : Sm w w') => small_yes (cp := p3) (h3.no hs.kp) hS3
  have z1 : 1 ≤ n1 := hS1.rect.r1
  have z2 : 1 ≤ n2 := hS2.rect.r1
  obtain ⟨B1, o1, A1', cp1, rfl, d1, _⟩ := h1.first hS1.rect
  obtain ⟨B2, o2, A2', cp2, rfl, d2, _⟩ := h2.first hS2.rect
  rcases hbad with hb | ⟨rfl, hb⟩
  · have hne : ((c1 : Int) != (n2 : Int)) = true := by simp; omega
    clear hb
    have Q2 := hide q2
    have Q3 := hide q3
    clear q2 q3
    go_enter Try.func6, Try.ntmps6
    go_wp2_with fail
    refine q1.mono ?_
    rintro e w1 ⟨rfl, hs1⟩
    go_wp2_with fail
    refine (Q2.out w1 hs1).mono ?_
    rintro e w2 ⟨rfl, hs2⟩
    go_wp2_with fail
    refine (Q3.out w2 (hs1.trans hs2)).mono ?_
    rintro e w3 ⟨rfl, hs3⟩
    have hs := (hs1.trans hs2).trans hs3
    have e1 : w3.cell? ⟨B1, o1, none⟩ = some (.slice A1' c1 cp1) := by rw [hs.cell]; exact d1
    go_wp2_with fail
    refine (awake_any _).mono ?_
    rintro e w4 ⟨rfl, hk⟩
    go_wp2_with fail
    go_ret
    exact ⟨rfl, (hs.kp.trans' hk).below0⟩
  · have hne : ((c2 : Int) != (n3 : Int)) = true := by simp; omega
    clear hb
    have Q2 := hide q2
    have Q3 := hide q3
    clear q2 q3
    go_enter Try.func6, Try.ntmps6
    go_wp2_with fail
    refine q1.mono ?_
    rintro e w1 ⟨rfl, hs1⟩
    go_wp2_with fail
    refine (Q2.out w1 hs1).mono ?_
    rintro e w2 ⟨rfl, hs2⟩
    go_wp2_with fail
    refine (Q3.out w2 (hs1.trans hs2)).mono ?_
    rintro e w3 ⟨rfl, hs3⟩
    have hs := (hs1.trans hs2).trans hs3
    have e1 : w3.cell? ⟨B1, o1, none⟩ = some (.slice A1' c1 cp1) := by rw [hs.cell]; exact d1
    have e2 : w3.cell? ⟨B2, o2, none⟩ = some (.slice A2' c2 cp2) := by rw [hs.cell]; exact d2
    go_wp2_with fail
    refine (awake_any _).mono ?_
    rintro e w4 ⟨rfl, hk⟩
    go_wp2_with fail
    go_ret
    exact ⟨rfl, (hs.kp.trans' hk).below0⟩

set_option maxHeartbeats 8000000 in
set_option maxRecDepth 100000 in
theorem turns_yes {c3 : Nat} (h1 : Rws w A1 n1 l1) (hS1 : Sml l1 n1 n2) (h2 : Rws w A2 n2 l2) (hS2 : Sml l2 n2 n3) (h3 : Rws w A3 n3 l3) (hS3 : Sml l3 n3 c3) :
    Calls Try.prog 6 #[.slice A1 n1 p1, .slice A2 n2 p2, .slice A3 n3 p3] w (TBel w) := by
  have q1 := small_yes (cp := p1) h1 hS1
  have q2 := fun w' (hs : Sm w w') => small_yes (cp := p2) (h2.no hs.kp) hS2
  have q3 := fun w' (hs : Sm w w') => small_yes (cp := p3) (h3.no hs.kp) hS3
  have t1 := fun w' (hs : Kp No w w') => of_yes (cp := p1) (h1.no hs) hS1.rect
  have t2 := fun w' (hs : Kp No w w') => of_yes (cp := p2) (h2.no hs) hS2.rect
  have t3 := fun w' (hs : Kp No w w') => of_yes (cp := p3) (h3.no hs) hS3.rect
  have z1 : 1 ≤ n1 := hS1.rect.r1
  have z2 : 1 ≤ n2 := hS2.rect.r1
  obtain ⟨B1, o1, A1', cp1, rfl, d1, _⟩ := h1.first hS1.rect
  obtain ⟨B2, o2, A2', cp2, rfl, d2, _⟩ := h2.first hS2.rect
  have Q2 := hide q2
  have Q3 := hide q3
  have T1 := hide t1
  have T2 := hide t2
  have T3 := hide t3
  clear q2 q3 t1 t2 t3
  go_enter Try.func6, Try.ntmps6
  go_wp2_with fail
  refine q1.mono ?_
  rintro e w1 ⟨rfl, hs1⟩
  go_wp2_with fail
  refine (Q2.out w1 hs1).mono ?_
  rintro e w2 ⟨rfl, hs2⟩
  go_wp2_with fail
  refine (Q3.out w2 (hs1.trans hs2)).mono ?_
  rintro e w3 ⟨rfl, hs3⟩
  have hs := (hs1.trans hs2).trans hs3
  have e1 : w3.cell? ⟨B1, o1, none⟩ = some (.slice A1' n2 cp1) := by rw [hs.cell]; exact d1
  have e2 : w3.cell? ⟨B2, o2, none⟩ = some (.slice A2' n3 cp2) := by rw [hs.cell]; exact d2
  have k3 : Kp No w w3 := hs.kp
  go_wp2_with fail
  refine (T1.out _ k3).mono ?_
  rintro e w4 ⟨x, rfl, X4, _, _, j4⟩
  have k4 := k3.trans' j4
  clear e1 e2
  go_wp2_with fail
  refine (T2.out _ k4).mono ?_
  rintro e w5 ⟨y, rfl, Y5, _, _, j5⟩
  have k5 := k4.trans' j5
  have X5 := X4.no j5
  go_wp2_with fail
  refine (T3.out _ k5).mono ?_
  rintro e w6 ⟨z, rfl, Z6, _, _, j6⟩
  have k6 := k5.trans' j6
  have X6 := X5.no j6
  have Y6 := Y5.no j6
  go_wp2_with fail
  refine (mul_yes X6 Y6).mono ?_
  rintro e w7 ⟨xy, rfl, XY7, _, _, j7⟩
  have k7 := k6.trans' j7
  have X7 := X6.no j7
  have Y7 := Y6.no j7
  have Z7 := Z6.no j7
  go_wp2_with fail
  refine (mul_yes Y7 Z7).mono ?_
  rintro e w8 ⟨yz, rfl, YZ8, _, _, j8⟩
  have k8 := k7.trans' j8
  have X8 := X7.no j8
  have Y8 := Y7.no j8
  have Z8 := Z7.no j8
  have XY8 := XY7.no j8
  go_wp2_with fail
  refine (mul_yes XY8 Z8).mono ?_
  rintro e w9 ⟨p, rfl, P9, _, _, j9⟩
  have k9 := k8.trans' j9
  have X9 := X8.no j9
  have Y9 := Y8.no j9
  have XY9 := XY8.no j9
  have YZ9 := YZ8.no j9
  go_wp2_with fail
  refine (mul_yes X9 YZ9).mono ?_
  rintro e w10 ⟨q, rfl, Q10, _, _, j10⟩
  have k10 := k9.trans' j10
  have X10 := X9.no j10
  have Y10 := Y9.no j10
  have XY10 := XY9.no j10
  have P10 := P9.no j10
  go_wp2_with fail
  refine (turned_any Y10).mono ?_
  rintro e w11 ⟨yt, rfl, YT11, _, _, j11⟩
  have k11 := k10.trans' j11
  have X11 := X10.no j11
  have XY11 := XY10.no j11
  have P11 := P10.no j11
  have Q11 := Q10.no j11
  go_wp2_with fail
  refine (turned_any X11).mono ?_
  rintro e w12 ⟨xt, rfl, XT12, _, _, j12⟩
  have k12 := k11.trans' j12
  have YT12 := YT11.no j12
  have XY12 := XY11.no j12
  have P12 := P11.no j12
  have Q12 := Q11.no j12
  go_wp2_with fail
  refine (mul_yes YT12 XT12).mono ?_
  rintro e w13 ⟨t, rfl, T13, _, _, j13⟩
  have k13 := k12.trans' j13
  have XY13 := XY12.no j13
  have P13 := P12.no j13
  have Q13 := Q12.no j13
  go_wp2_with fail
  refine (same_eq P13 Q13 true (by simp; exact fun i k _ _ => mulF_assoc _ _ _ _ _ i k)).mono ?_
  rintro e w14 ⟨rfl, s14⟩
  have k14 := k13.trans' s14.kp
  have XY14 := XY13.sm s14
  have T14 := T13.sm s14
  go_wp2_with fail
  refine (turned_any XY14).mono ?_
  rintro e w15 ⟨xyt, rfl, XYT15, _, _, j15⟩
  have k15 := k14.trans' j15
  have T15 := T14.no j15
  go_wp2_with fail
  refine (same_eq T15 XYT15 true (by simp; exact fun i k _ _ => (turn_mul _ _ _ i k).symm)).mono ?_
  rintro e w16 ⟨rfl, s16⟩
  have k16 := k15.trans' s16.kp
  go_wp2_with fail
  refine (awake_any _).mono ?_
  rintro e w17 ⟨rfl, hk⟩
  go_wp2_with fail
  go_ret
  exact ⟨rfl, (k16.trans' hk).below0⟩

theorem matturns_walk (h1 : Rws w A1 n1 l1) (h2 : Rws w A2 n2 l2) (h3 : Rws w A3 n3 l3) :
    Calls Try.prog 6 #[.slice A1 n1 p1, .slice A2 n2 p2, .slice A3 n3 p3] w fun e w' => e = .returned (.bool true) ∧ Below w.heap.size w w' := by
  show Calls _ _ _ _ (TBel w)
  by_cases hS1 : Sml l1 n1 (len0 l1)
  · by_cases hS2 : Sml l2 n2 (len0 l2)
    · by_cases hS3 : Sml l3 n3 (len0 l3)
      · by_cases hb : len0 l1 ≠ n2 ∨ (len0 l1 = n2 ∧ len0 l2 ≠ n3)
        · exact turns_fit h1 hS1 h2 hS2 h3 hS3 hb
        · have e1 : len0 l1 = n2 := by omega
          have e2 : len0 l2 = n3 := by omega
          rw [e1] at hS1
          rw [e2] at hS2
          exact turns_yes h1 hS1 h2 hS2 h3 hS3
      · exact turns_not3 h1 hS1 h2 hS2 h3 hS3
    · exact turns_not2 h1 hS1 h2 hS2
  · exact turns_not1 h1 hS1
end
end Go.Proofs.Ytbhocklcopajkaa
