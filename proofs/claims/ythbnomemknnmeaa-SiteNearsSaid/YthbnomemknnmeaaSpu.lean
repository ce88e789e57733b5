/- Package site's Turned, the document's points, law09's is and awake, as contracts. -/
import Derived.Test.YthbnomemknnmeaaSpt
import Derived.Laws.Bits128
namespace Go.Proofs.Ythbnomemknnmeaa
open Go.RowKit
set_option linter.unusedVariables false
set_option linter.unusedSimpArgs false
set_option maxRecDepth 100000

theorem and3 (n : Int) : bits .and .i64 n 3 = n % 4 := by
  have h3 : (BitVec.ofInt 64 3).toNat = 2 ^ 2 - 1 := by decide
  have key : (BitVec.ofInt 64 n &&& BitVec.ofInt 64 3).toNat = (n % ((2 ^ 64 : Nat) : Int)).toNat % 2 ^ 2 := by
    rw [BitVec.toNat_and, BitVec.toNat_ofInt, h3, Nat.and_two_pow_sub_one_eq_mod]
  show IntKind.i64.wrap ((BitVec.ofInt 64 n &&& BitVec.ofInt 64 3).toNat : Nat) = n % 4
  rw [key, IntKind.wrap_i64]
  omega
/-- Which of four. -/
def q4 (n : Int) : Nat := (n % 4).toNat
theorem q4_lt (n : Int) : q4 n < 4 := by unfold q4; omega
theorem q4_eq (n : Int) : n % 4 = (q4 n : Int) := by unfold q4; omega
/-- A point comes back. -/
def TrPost (x y : Int) (w : World) (e : Ending) (w1 : World) : Prop := ∃ a b, e = .returned (.complex .f64 a b) ∧ Fl a x ∧ Fl b y ∧ w = w1
theorem tr_next (k : Nat) (hk : k < 3) (x y : Int) : trX (k + 1) x y = -(trY k x y) ∧ trY (k + 1) x y = trX k x y := by
  unfold trX trY
  match k, hk with
  | 0, _ => simp
  | 1, _ => simp
  | 2, _ => simp
set_option maxHeartbeats 1000000 in
theorem turned_any (w : World) {a b : Nat} {x y : Int} (ha : Fl a x) (hb : Fl b y) (n : Int) : Calls Try.prog 12 #[.complex .f64 a b, .int .i64 n] w (TrPost (trX (q4 n) x y) (trY (q4 n) x y) w) := by
  have han : bits .and .i64 n 3 = (q4 n : Int) := by rw [and3, q4_eq]
  have hq := q4_lt n
  generalize q4 n = m at han hq ⊢
  have h0 : ∃ a' b', Value.complex .f64 a b = .complex .f64 a' b' ∧ Fl a' (trX 0 x y) ∧ Fl b' (trY 0 x y) := ⟨a, b, rfl, ha, hb⟩
  clear ha hb
  go_enter Try.func12, Try.ntmps12
  go_wp2_with fail
  go_loopw [0, 7] (fun p i wr => ∃ k : Nat, k ≤ m ∧ wr = w ∧ i = .int .i64 (k : Int) ∧ ∃ a' b', p = .complex .f64 a' b' ∧ Fl a' (trX k x y) ∧ Fl b' (trY k x y)) (fun _ i _ => m - (intOf i).toNat)
  case atStart => exact ⟨0, Nat.zero_le _, rfl, rfl, h0⟩
  case round =>
    obtain ⟨k, hk, rfl, rfl, a', b', rfl, fa, fb⟩ := hrel
    clear h0
    by_cases hlt : k < m
    · obtain ⟨re, im, hc, f1, f2⟩ := fa.turn fb
      have hop := fun t w => run_complex_mul (P := Try.prog) w t a' b' 0 4607182418800017408 re im hc
      have F1 := hide (f1.cast (tr_next k (by omega) x y).1.symm)
      have F2 := hide (f2.cast (tr_next k (by omega) x y).2.symm)
      clear fa fb hc f1 f2
      go_wp2_with (simp only [hop])
      go_round
      case rel => exact ⟨k + 1, by omega, trivial, by go_num, re, im, rfl, F1.out, F2.out⟩
      case measure => simp [intOf]; omega
    · obtain rfl : k = m := by omega
      have ba := fa.bound
      have bb := fb.bound
      obtain ⟨re, im, hc, f1, f2⟩ := fa.csum fb Fl.zero Fl.zero (by omega) (by omega)
      have hop := fun t w => run_complex_sum (P := Try.prog) w .add (Or.inl rfl) t .f64 a' b' 0 0 re im hc
      have F1 := hide (f1.cast (Int.add_zero _))
      have F2 := hide (f2.cast (Int.add_zero _))
      clear fa fb hc f1 f2 ba bb
      go_wp2_with (simp only [hop])
      go_ret
      exact ⟨re, im, rfl, F1.out, F2.out, rfl⟩

/-- A point of the document's comes back. -/
def RpPost (x y : Int) (w : World) (e : Ending) (w1 : World) : Prop := e = .returned (rpV x y) ∧ Kp No w w1
section
variable (w : World) (x y z t : Int)
theorem rright_pt (hx : Alw x) (hy : Alw y) : Calls Try.prog 7 #[rpV x y] w fun e w' => e = .returned (.bool true) ∧ Kp No w w' := by
  obtain ⟨h1, h2⟩ := hx
  obtain ⟨h3, h4⟩ := hy
  go_enter Try.func7, Try.ntmps7
  go_wp2_with fail
  go_ret
  exact ⟨rfl, (by repeat (first | exact Kp.refl _ _ | assumption | refine Kp.fresh ?_ (by simp) _ | refine Kp.al ?_ _))⟩
theorem rright_no (h : ¬ (Alw x ∧ Alw y)) : Calls Try.prog 7 #[rpV x y] w fun e w' => e = .returned (.bool false) ∧ Kp No w w' := by
  unfold Alw at h
  by_cases h1 : -1048576 ≤ x
  · by_cases h2 : x ≤ 1048576
    · by_cases h3 : -1048576 ≤ y
      · have h4 : ¬ y ≤ 1048576 := by omega
        clear h
        go_enter Try.func7, Try.ntmps7
        go_wp2_with fail
        go_ret
        exact ⟨rfl, (by repeat (first | exact Kp.refl _ _ | assumption | refine Kp.fresh ?_ (by simp) _ | refine Kp.al ?_ _))⟩
      · clear h
        go_enter Try.func7, Try.ntmps7
        go_wp2_with fail
        go_ret
        exact ⟨rfl, (by repeat (first | exact Kp.refl _ _ | assumption | refine Kp.fresh ?_ (by simp) _ | refine Kp.al ?_ _))⟩
    · clear h
      go_enter Try.func7, Try.ntmps7
      go_wp2_with fail
      go_ret
      exact ⟨rfl, (by repeat (first | exact Kp.refl _ _ | assumption | refine Kp.fresh ?_ (by simp) _ | refine Kp.al ?_ _))⟩
  · clear h
    go_enter Try.func7, Try.ntmps7
    go_wp2_with fail
    go_ret
    exact ⟨rfl, (by repeat (first | exact Kp.refl _ _ | assumption | refine Kp.fresh ?_ (by simp) _ | refine Kp.al ?_ _))⟩
theorem rfar_any (h1 : -2000000000 ≤ x - z ∧ x - z ≤ 2000000000) (h2 : -2000000000 ≤ y - t ∧ y - t ≤ 2000000000) (hb : (-2000000000 ≤ x ∧ x ≤ 2000000000) ∧ (-2000000000 ≤ y ∧ y ≤ 2000000000)) : Calls Try.prog 11 #[rpV x y, rpV z t] w fun e w' => e = .returned (.int .i64 (farZ x y z t)) ∧ Kp No w w' := by
  have e : Hid ((x - z) * (x - z) + (y - t) * (y - t) = farZ x y z t) := rfl
  have n1 : IntKind.i64.wrap (x - z) = x - z := by rw [IntKind.wrap_i64]; omega
  have n2 : IntKind.i64.wrap (y - t) = y - t := by rw [IntKind.wrap_i64]; omega
  obtain ⟨p, hp⟩ : ∃ p, p = x - z := ⟨_, rfl⟩
  obtain ⟨q, hq⟩ : ∃ q, q = y - t := ⟨_, rfl⟩
  rw [← hp] at n1 h1 e
  rw [← hq] at n2 h2 e
  rw [hp] at n1
  rw [hq] at n2
  rw [← hp] at n1
  rw [← hq] at n2
  have b1 := sq_le (B := 2000000000) h1.1 h1.2
  have b2 := sq_le (B := 2000000000) h2.1 h2.2
  have m1 : IntKind.i64.wrap (p * p) = p * p := by rw [IntKind.wrap_i64]; omega
  have m2 : IntKind.i64.wrap (q * q) = q * q := by rw [IntKind.wrap_i64]; omega
  have m3 : IntKind.i64.wrap (p * p + q * q) = p * p + q * q := by rw [IntKind.wrap_i64]; omega
  have n3 : IntKind.i64.wrap (x - z) = p := by rw [← hp]; rw [IntKind.wrap_i64]; omega
  have n4 : IntKind.i64.wrap (y - t) = q := by rw [← hq]; rw [IntKind.wrap_i64]; omega
  have s1 : x - z = p := hp.symm
  have s2 : y - t = q := hq.symm
  clear n1 n2 b1 b2 hp hq hb
  go_enter Try.func11, Try.ntmps11
  go_wp2_with fail
  go_ret
  exact ⟨ret_i64 e.out, (by repeat (first | exact Kp.refl _ _ | assumption | refine Kp.fresh ?_ (by simp) _ | refine Kp.al ?_ _))⟩
theorem is_any {a b : Nat} (ha : Fl a x) (hb : Fl b y) : Calls Try.prog 9 #[.complex .f64 a b, rpV x y] w fun e w' => e = .returned (.bool true) ∧ Kp No w w' := by
  have hp := hide (fun w => parts_any w ha hb)
  clear ha hb
  go_enter Try.func9, Try.ntmps9
  go_wp2_with fail
  refine (hp.out _).mono ?_
  rintro e w' ⟨rfl, rfl⟩
  go_wp2_with fail
  go_ret
  exact ⟨rfl, (by repeat (first | exact Kp.refl _ _ | assumption | refine Kp.fresh ?_ (by simp) _ | refine Kp.al ?_ _))⟩
theorem awake9_any : Calls Try.prog 8 #[] w fun e w' => e = .returned (.bool true) ∧ w = w' := by
  have h1 := at_yes w 0 0 (by unfold Alw; omega) (by unfold Alw; omega)
  have h2 := at_yes w 3 4 (by unfold Alw; omega) (by unfold Alw; omega)
  have f := fun {x : Int} (h : Alw x) => Fl.at_ h
  have h3 := far_any w (f (x := 0) (by unfold Alw; omega)) (f (x := 0) (by unfold Alw; omega)) (f (x := 3) (by unfold Alw; omega)) (f (x := 4) (by unfold Alw; omega)) (by omega) (by omega)
  have e : farZ 0 0 3 4 = 25 := by decide
  rw [e] at h3
  clear f e
  generalize floatOfInt .f64 0 = z0 at h1 h3
  generalize floatOfInt .f64 3 = z3 at h2 h3
  generalize floatOfInt .f64 4 = z4 at h2 h3
  go_enter Try.func8, Try.ntmps8
  go_wp2_with fail
  refine h1.mono ?_
  rintro e w' ⟨rfl, rfl⟩
  go_wp2_with fail
  refine h2.mono ?_
  rintro e w' ⟨rfl, rfl⟩
  go_wp2_with fail
  refine h3.mono ?_
  rintro e w' ⟨rfl, rfl⟩
  go_wp2_with fail
  go_ret
  exact ⟨rfl, rfl⟩
end
set_option maxHeartbeats 1000000 in
theorem rturned_any (w : World) (x y n : Int) (hx : Alw x) (hy : Alw y) : Calls Try.prog 13 #[rpV x y, .int .i64 n] w (RpPost (trX (q4 n) x y) (trY (q4 n) x y) w) := by
  have hd := Int.tmod_add_mul_tdiv n 4
  have l1 := Int.lt_tmod_of_pos n (b := 4) (by decide)
  have l2 := Int.tmod_lt_of_pos n (b := 4) (by decide)
  have e4 := q4_eq n
  have hq := q4_lt n
  have hc : (q4 n = 0 ∧ n.tmod 4 = 0) ∨ (q4 n = 1 ∧ n.tmod 4 = 1) ∨ (q4 n = 2 ∧ n.tmod 4 = 2) ∨ (q4 n = 3 ∧ n.tmod 4 = 3) ∨ (q4 n = 3 ∧ n.tmod 4 = -1) ∨ (q4 n = 2 ∧ n.tmod 4 = -2) ∨ (q4 n = 1 ∧ n.tmod 4 = -3) := by
    generalize q4 n = m at *
    omega
  clear hd l1 l2 e4 hq
  obtain ⟨hx1, hx2⟩ := hx
  obtain ⟨hy1, hy2⟩ := hy
  rcases hc with ⟨e1, e2⟩ | ⟨e1, e2⟩ | ⟨e1, e2⟩ | ⟨e1, e2⟩ | ⟨e1, e2⟩ | ⟨e1, e2⟩ | ⟨e1, e2⟩
  · have g1 : trX (q4 n) x y = x := by rw [e1]; simp [trX]
    have g2 : trY (q4 n) x y = y := by rw [e1]; simp [trY]
    rw [g1, g2]
    clear e1 g1 g2
    go_enter Try.func13, Try.ntmps13
    go_wp2_with fail
    exact bodyPost_ret (v := rpV (x) (y)) (by simp [results, Try.results13, go_sem]) rfl ⟨rfl, (by repeat (first | exact Kp.refl _ _ | assumption | refine Kp.fresh ?_ (by simp) _ | refine Kp.al ?_ _))⟩
  · have g1 : trX (q4 n) x y = -y := by rw [e1]; simp [trX]
    have g2 : trY (q4 n) x y = x := by rw [e1]; simp [trY]
    rw [g1, g2]
    clear e1 g1 g2
    go_enter Try.func13, Try.ntmps13
    go_wp2_with fail
    exact bodyPost_ret (v := rpV (-y) (x)) (by simp [results, Try.results13, go_sem]) rfl ⟨rfl, (by repeat (first | exact Kp.refl _ _ | assumption | refine Kp.fresh ?_ (by simp) _ | refine Kp.al ?_ _))⟩
  · have g1 : trX (q4 n) x y = -x := by rw [e1]; simp [trX]
    have g2 : trY (q4 n) x y = -y := by rw [e1]; simp [trY]
    rw [g1, g2]
    clear e1 g1 g2
    go_enter Try.func13, Try.ntmps13
    go_wp2_with fail
    exact bodyPost_ret (v := rpV (-x) (-y)) (by simp [results, Try.results13, go_sem]) rfl ⟨rfl, (by repeat (first | exact Kp.refl _ _ | assumption | refine Kp.fresh ?_ (by simp) _ | refine Kp.al ?_ _))⟩
  · have g1 : trX (q4 n) x y = y := by rw [e1]; simp [trX]
    have g2 : trY (q4 n) x y = -x := by rw [e1]; simp [trY]
    rw [g1, g2]
    clear e1 g1 g2
    go_enter Try.func13, Try.ntmps13
    go_wp2_with fail
    exact bodyPost_ret (v := rpV (y) (-x)) (by simp [results, Try.results13, go_sem]) rfl ⟨rfl, (by repeat (first | exact Kp.refl _ _ | assumption | refine Kp.fresh ?_ (by simp) _ | refine Kp.al ?_ _))⟩
  · have g1 : trX (q4 n) x y = y := by rw [e1]; simp [trX]
    have g2 : trY (q4 n) x y = -x := by rw [e1]; simp [trY]
    rw [g1, g2]
    clear e1 g1 g2
    go_enter Try.func13, Try.ntmps13
    go_wp2_with fail
    exact bodyPost_ret (v := rpV (y) (-x)) (by simp [results, Try.results13, go_sem]) rfl ⟨rfl, (by repeat (first | exact Kp.refl _ _ | assumption | refine Kp.fresh ?_ (by simp) _ | refine Kp.al ?_ _))⟩
  · have g1 : trX (q4 n) x y = -x := by rw [e1]; simp [trX]
    have g2 : trY (q4 n) x y = -y := by rw [e1]; simp [trY]
    rw [g1, g2]
    clear e1 g1 g2
    go_enter Try.func13, Try.ntmps13
    go_wp2_with fail
    exact bodyPost_ret (v := rpV (-x) (-y)) (by simp [results, Try.results13, go_sem]) rfl ⟨rfl, (by repeat (first | exact Kp.refl _ _ | assumption | refine Kp.fresh ?_ (by simp) _ | refine Kp.al ?_ _))⟩
  · have g1 : trX (q4 n) x y = -y := by rw [e1]; simp [trX]
    have g2 : trY (q4 n) x y = x := by rw [e1]; simp [trY]
    rw [g1, g2]
    clear e1 g1 g2
    go_enter Try.func13, Try.ntmps13
    go_wp2_with fail
    exact bodyPost_ret (v := rpV (-y) (x)) (by simp [results, Try.results13, go_sem]) rfl ⟨rfl, (by repeat (first | exact Kp.refl _ _ | assumption | refine Kp.fresh ?_ (by simp) _ | refine Kp.al ?_ _))⟩
end Go.Proofs.Ythbnomemknnmeaa
